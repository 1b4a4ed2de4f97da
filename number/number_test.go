package number_test

import (
	"fmt"
	"math"
	"math/big"
	"math/rand"
	"strings"
	"testing"

	"revetment/api"
	"revetment/number"
	"revetment/plain"
)

var widths = []int{math.MinInt, -1, 0, 1, 2, 3, 4, 7, 8, 9, 10, 12, 16, 19, 20, 21, 64, math.MaxInt}

// numbers are those at which a width, or a kind of int, ends, and some others.
func numbers() []int {
	l := []int{math.MinInt, math.MinInt + 1, math.MaxInt - 1, math.MaxInt, -255, -8, 8, 493}
	for bit := range 63 {
		p := 1 << bit
		l = append(l, p-1, p, p+1, -p-1, -p, -p+1)
	}
	r := rand.New(rand.NewSource(1))
	for range 300 {
		l = append(l, int(r.Uint64())>>r.Intn(64))
	}
	return l
}

func same(t *testing.T, what string, got string, gotErr error, want string, wantErr api.Errno) {
	t.Helper()
	e, place := plain.Place(gotErr)
	if got != want || e != wantErr || place != -1 {
		t.Errorf("%s: got %q, error %d at %d; want %q, error %d at -1", what, got, e, place, want, wantErr)
	}
}

func wantMost(width int) *big.Int {
	p := new(big.Int).Exp(big.NewInt(8), big.NewInt(int64(width-1)), nil)
	return p.Sub(p, big.NewInt(1))
}

func TestMost(t *testing.T) {
	for _, w := range widths {
		want := 0
		if w >= 2 && w <= 20 {
			want = int(wantMost(w).Int64())
		}
		if got := number.Most(w); got != want {
			t.Errorf("Most(%d) = %d, want %d", w, got, want)
		}
	}
	for w, want := range map[int]int{2: 7, 3: 63, 8: 2097151, 12: 8589934591, 20: 1<<57 - 1} {
		if got := number.Most(w); got != want {
			t.Errorf("Most(%d) = %d, want %d", w, got, want)
		}
	}
}

func TestOctalExamples(t *testing.T) {
	for _, c := range []struct {
		n, width int
		want     string
		err      api.Errno
	}{
		{8, 4, "010\x00", 0},
		{0, 2, "0\x00", 0},
		{7, 2, "7\x00", 0},
		{8, 2, "", api.ErrRange},
		{-1, 2, "", api.ErrRange},
		{0o755, 8, "0000755\x00", 0},
		{0o7777777, 8, "7777777\x00", 0},
		{0o7777777 + 1, 8, "", api.ErrRange},
		{1<<57 - 1, 20, strings.Repeat("7", 19) + "\x00", 0},
		{1 << 57, 20, "", api.ErrRange},
		{math.MaxInt, 20, "", api.ErrRange},
		{math.MinInt, 20, "", api.ErrRange},
		{0, 1, "", api.ErrArg},
		{0, 21, "", api.ErrArg},
		{-1, 1, "", api.ErrArg},
		{-1, 21, "", api.ErrArg},
		{math.MaxInt, 0, "", api.ErrArg},
	} {
		got, err := number.Octal(c.n, c.width)
		same(t, fmt.Sprintf("Octal(%d, %d)", c.n, c.width), got, err, c.want, c.err)
	}
}

func wantOctal(n, width int) (string, api.Errno) {
	switch {
	case width < 2 || width > 20:
		return "", api.ErrArg
	case n < 0 || big.NewInt(int64(n)).Cmp(wantMost(width)) > 0:
		return "", api.ErrRange
	}
	return fmt.Sprintf("%0*o\x00", width-1, n), 0
}

func TestOctal(t *testing.T) {
	for _, w := range widths {
		for _, n := range numbers() {
			want, e := wantOctal(n, w)
			got, err := number.Octal(n, w)
			same(t, fmt.Sprintf("Octal(%d, %d)", n, w), got, err, want, e)
		}
	}
}

func TestBinaryExamples(t *testing.T) {
	for _, c := range []struct {
		n, width int
		want     string
		err      api.Errno
	}{
		{0, 8, "\x80\x00\x00\x00\x00\x00\x00\x00", 0},
		{258, 8, "\x80\x00\x00\x00\x00\x00\x01\x02", 0},
		{-1, 8, "\xff\xff\xff\xff\xff\xff\xff\xff", 0},
		{-2, 9, "\xff\xff\xff\xff\xff\xff\xff\xff\xfe", 0},
		{1<<55 - 1, 8, "\x80\x7f\xff\xff\xff\xff\xff\xff", 0},
		{1 << 55, 8, "", api.ErrRange},
		{-1 << 55, 8, "\xff\x80\x00\x00\x00\x00\x00\x00", 0},
		{-1<<55 - 1, 8, "", api.ErrRange},
		{math.MaxInt, 9, "\x80\x7f\xff\xff\xff\xff\xff\xff\xff", 0},
		{math.MinInt, 9, "\xff\x80\x00\x00\x00\x00\x00\x00\x00", 0},
		{math.MinInt, 12, "\xff\xff\xff\xff\x80\x00\x00\x00\x00\x00\x00\x00", 0},
		{math.MaxInt, 20, "\x80" + strings.Repeat("\x00", 11) + "\x7f" + strings.Repeat("\xff", 7), 0},
		{0, 7, "", api.ErrArg},
		{0, 21, "", api.ErrArg},
		{math.MaxInt, 7, "", api.ErrArg},
		{math.MinInt, 21, "", api.ErrArg},
	} {
		got, err := number.Binary(c.n, c.width)
		same(t, fmt.Sprintf("Binary(%d, %d)", c.n, c.width), got, err, c.want, c.err)
	}
}

func wantBinary(n, width int) (string, api.Errno) {
	switch {
	case width < 8 || width > 20:
		return "", api.ErrArg
	case width == 8 && (n < -1<<55 || n > 1<<55-1):
		return "", api.ErrRange
	}
	mark := byte(128)
	v := big.NewInt(int64(n))
	if n < 0 {
		mark = 255
		v.Add(v, new(big.Int).Lsh(big.NewInt(1), uint(8*(width-1))))
	}
	return string(append([]byte{mark}, v.FillBytes(make([]byte, width-1))...)), 0
}

func TestBinary(t *testing.T) {
	for _, w := range widths {
		for _, n := range numbers() {
			want, e := wantBinary(n, w)
			got, err := number.Binary(n, w)
			same(t, fmt.Sprintf("Binary(%d, %d)", n, w), got, err, want, e)
		}
	}
}

func TestWriteExamples(t *testing.T) {
	for _, c := range []struct {
		n, width int
		binary   bool
		want     string
		err      api.Errno
	}{
		{8, 8, true, "0000010\x00", 0},
		{8, 8, false, "0000010\x00", 0},
		{1 << 21, 8, true, "\x80\x00\x00\x00\x00\x20\x00\x00", 0},
		{1 << 21, 8, false, "", api.ErrRange},
		{-1, 8, true, "\xff\xff\xff\xff\xff\xff\xff\xff", 0},
		{-1, 8, false, "", api.ErrRange},
		{-1, 7, true, "", api.ErrRange},
		{1 << 18, 7, true, "", api.ErrRange},
		{1 << 55, 8, true, "", api.ErrRange},
		{0, 1, true, "", api.ErrArg},
		{0, 21, true, "", api.ErrArg},
		{-1, 21, true, "", api.ErrArg},
		{-1, 1, true, "", api.ErrArg},
	} {
		got, err := number.Write(c.n, c.width, c.binary)
		same(t, fmt.Sprintf("Write(%d, %d, %t)", c.n, c.width, c.binary), got, err, c.want, c.err)
	}
}

func TestWrite(t *testing.T) {
	for _, w := range widths {
		for _, n := range numbers() {
			for _, binary := range []bool{false, true} {
				want, e := wantOctal(n, w)
				if e == api.ErrRange && binary && w >= 8 {
					want, e = wantBinary(n, w)
				}
				got, err := number.Write(n, w, binary)
				same(t, fmt.Sprintf("Write(%d, %d, %t)", n, w, binary), got, err, want, e)
			}
		}
	}
}

// sameRead checks Read twice: what it answers hangs on its argument alone.
func sameRead(t *testing.T, s string, want int, wantErr api.Errno) {
	t.Helper()
	for range 2 {
		n, err := number.Read(s)
		e, place := plain.Place(err)
		if n != want || e != wantErr || place != -1 {
			t.Errorf("Read(%q): got %d, error %d at %d; want %d, error %d at -1", s, n, e, place, want, wantErr)
		}
	}
}

func TestReadOctal(t *testing.T) {
	for _, c := range []struct {
		s    string
		want int
		err  api.Errno
	}{
		{"", 0, api.ErrForm},
		{" ", 0, 0},
		{"\x00", 0, 0},
		{" \x00", 0, 0},
		{"  \x00 \x00", 0, 0},
		{"\x00 ", 0, 0},
		{"010\x00", 8, 0},
		{"010", 8, 0},
		{"10", 8, 0},
		{"  10 \x00 \x00\x00", 8, 0},
		{"7", 7, 0},
		{"8", 0, api.ErrForm},
		{"/", 0, api.ErrForm},
		{"18", 0, api.ErrForm},
		{"81", 0, api.ErrForm},
		{"1 1", 0, api.ErrForm},
		{"1\x001", 0, api.ErrForm},
		{"\x001", 0, api.ErrForm},
		{" \x001", 0, api.ErrForm},
		{"\t1", 0, api.ErrForm},
		{"1\n", 0, api.ErrForm},
		{"-1", 0, api.ErrForm},
		{"+1", 0, api.ErrForm},
		{"0x1", 0, api.ErrForm},
		{"1_1", 0, api.ErrForm},
		{" \x80", 0, api.ErrForm},
		{"1\xff", 0, api.ErrForm},
		{"1\u0660", 0, api.ErrForm},
		{"777777777777777777777", math.MaxInt, 0},
		{"100000000000000000000", 1 << 60, 0},
		{"1000000000000000000000", 0, api.ErrRange},
		{"0777777777777777777770", math.MaxInt - 7, 0},
		{"0777777777777777777777", math.MaxInt, 0},
		{strings.Repeat("0", 1000) + "777777777777777777777 ", math.MaxInt, 0},
		{strings.Repeat("7", 22), 0, api.ErrRange},
		{strings.Repeat("7", 1000), 0, api.ErrRange},
		{"1000000000000000000000x", 0, api.ErrRange},
		{"100000000000000000000x", 0, api.ErrForm},
		{"100000000000000000000x0", 0, api.ErrForm},
		{"100000000000000000000 0", 0, api.ErrForm},
		{"x1000000000000000000000", 0, api.ErrForm},
	} {
		sameRead(t, c.s, c.want, c.err)
	}
}

func TestReadBinary(t *testing.T) {
	for _, c := range []struct {
		s    string
		want int
		err  api.Errno
	}{
		{"\x80", 0, 0},
		{"\x81", 1, 0},
		{"\xfe", 126, 0},
		{"\xff", -1, 0},
		{"\xff\xff", -1, 0},
		{"\xff\x00", -256, 0},
		{"\xfe\x01", 126<<8 | 1, 0},
		{"\x80\x20", 32, 0},
		{"\x80  1", 0x202031, 0},
		{"\x80\x01\x00 ", 0x10020, 0},
		{"\x87\xff\xff\xff\xff\xff\xff\xff", 1<<59 - 1, 0},
		{"\xfe\xff\xff\xff\xff\xff\xff\xff", 0x7effffffffffffff, 0},
		{"\xff\x00\x00\x00\x00\x00\x00\x00", -1 << 56, 0},
		{"\x80\x7f\xff\xff\xff\xff\xff\xff\xff", math.MaxInt, 0},
		{"\x80\x80\x00\x00\x00\x00\x00\x00\x00", 0, api.ErrRange},
		{"\x81\x00\x00\x00\x00\x00\x00\x00\x00", 0, api.ErrRange},
		{"\x88\x00\x00\x00\x00\x00\x00\x00\x00", 0, api.ErrRange},
		{"\xff\x80\x00\x00\x00\x00\x00\x00\x00", math.MinInt, 0},
		{"\xff\x7f\xff\xff\xff\xff\xff\xff\xff", 0, api.ErrRange},
		{"\xff\x00\x00\x00\x00\x00\x00\x00\x00", 0, api.ErrRange},
		{strings.Repeat("\xff", 1000), -1, 0},
		{"\x80" + strings.Repeat("\x00", 1000) + "\x05", 5, 0},
		{"\x80" + strings.Repeat("\xff", 1000), 0, api.ErrRange},
		{"\xff" + strings.Repeat("\x00", 1000), 0, api.ErrRange},
	} {
		sameRead(t, c.s, c.want, c.err)
	}
}

func wantRead(s string) (int, api.Errno) {
	n := new(big.Int)
	switch {
	case s == "":
		return 0, api.ErrForm
	case s[0] == 255:
		n.SetBytes([]byte(s))
		n.Sub(n, new(big.Int).Lsh(big.NewInt(1), uint(8*len(s))))
	case s[0] >= 128:
		n.SetBytes([]byte(s))
		n.SetBit(n, 8*len(s)-1, 0)
	default:
		for s != "" && s[0] == ' ' {
			s = s[1:]
		}
		for s != "" && (s[len(s)-1] == ' ' || s[len(s)-1] == 0) {
			s = s[:len(s)-1]
		}
		for _, c := range []byte(s) {
			if c < '0' || c > '7' {
				return 0, api.ErrForm
			}
			n.Add(n.Lsh(n, 3), big.NewInt(int64(c-'0')))
			if !n.IsInt64() {
				return 0, api.ErrRange
			}
		}
	}
	if !n.IsInt64() {
		return 0, api.ErrRange
	}
	return int(n.Int64()), 0
}

// TestReadDrawn reads fields of few different bytes, as these meet more often.
func TestReadDrawn(t *testing.T) {
	r := rand.New(rand.NewSource(2))
	for _, letters := range []string{"01234567", "07 \x00", "07 \x008\x80\xff", "\x80\x00\xff", "\xff\x80\x7f", "\x80\x00\x01\x7f"} {
		for range 5000 {
			b := make([]byte, r.Intn(30))
			for i := range b {
				b[i] = letters[r.Intn(len(letters))]
			}
			want, e := wantRead(string(b))
			sameRead(t, string(b), want, e)
		}
	}
}

func TestReadEachByte(t *testing.T) {
	for a := range 256 {
		for b := range 256 {
			s := string([]byte{byte(a), byte(b)})
			want, e := wantRead(s)
			sameRead(t, s, want, e)
		}
	}
}

func TestWrittenIsReadBack(t *testing.T) {
	for _, w := range widths {
		for _, n := range numbers() {
			for _, binary := range []bool{false, true} {
				if s, err := number.Write(n, w, binary); err == nil {
					sameRead(t, s, n, 0)
				}
			}
			if s, err := number.Binary(n, w); err == nil {
				sameRead(t, s, n, 0)
			}
		}
	}
}
