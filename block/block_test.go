package block_test

import (
	"fmt"
	"math"
	"math/rand"
	"strings"
	"testing"

	"revetment/api"
	"revetment/block"
	"revetment/plain"
)

func TestPad(t *testing.T) {
	for _, c := range [][2]int{
		{math.MinInt, 0}, {-513, 0}, {-512, 0}, {-1, 0}, {0, 0},
		{1, 511}, {2, 510}, {511, 1}, {512, 0}, {513, 511}, {1023, 1}, {1024, 0},
		{1<<40 - 1, 1}, {1 << 40, 0},
	} {
		if got := block.Pad(c[0]); got != c[1] {
			t.Errorf("Pad(%d) = %d, want %d", c[0], got, c[1])
		}
	}
	for n := range 3000 {
		got := block.Pad(n)
		if got < 0 || got >= api.Block || (n+got)%api.Block != 0 {
			t.Errorf("Pad(%d) = %d", n, got)
		}
	}
	for _, n := range []int{math.MaxInt, math.MinInt, math.MinInt + 1} {
		block.Pad(n)
	}
}

func TestFill(t *testing.T) {
	for _, n := range []int{0, 1, 2, 511, 512, 513, 1023, 1024, 1025, 5000} {
		for _, letter := range []string{"a", "\x00", "\xff"} {
			s := strings.Repeat(letter, n)
			want := s
			for len(want)%512 != 0 {
				want += "\x00"
			}
			if got := block.Fill(s); got != want {
				t.Errorf("Fill of %d bytes %q has %d bytes, want %d, or others", n, letter, len(got), len(want))
			}
		}
	}
}

func TestZero(t *testing.T) {
	zeros := strings.Repeat("\x00", 2048)
	for _, n := range []int{0, 1, 511, 512, 513, 1024, 2048} {
		if got := block.Zero(zeros[:n]); got != (n == 512) {
			t.Errorf("Zero of %d bytes 0 = %t", n, got)
		}
	}
	for i := range 512 {
		for _, c := range []string{"\x01", "\x80", "0", " "} {
			if block.Zero(zeros[:i] + c + zeros[i+1:512]) {
				t.Errorf("Zero, with %q at %d, is true", c, i)
			}
		}
	}
	if block.Zero(strings.Repeat("0", 512)) {
		t.Error("Zero of 512 digits is true")
	}
}

// headers are blocks: of one byte, of bytes that sum up to much, and drawn.
func headers() []string {
	var l []string
	for _, c := range []string{"\x00", " ", "0", "a", "\x7f", "\x80", "\xff", "\xc3"} {
		l = append(l, strings.Repeat(c, 512))
	}
	r := rand.New(rand.NewSource(3))
	for range 50 {
		b := make([]byte, 512)
		r.Read(b)
		for i := range r.Intn(512) {
			b[i] = 'a'
		}
		l = append(l, string(b))
	}
	return l
}

// others are texts that are no block.
func others() []string {
	return []string{"", "a", strings.Repeat("a", 511), strings.Repeat("a", 513), strings.Repeat("\x00", 1024), strings.Repeat(" ", 156)}
}

func with(s, field string) string {
	return s[:148] + field + s[156:]
}

func wantSum(s string, signed bool) int {
	sum := 0
	for _, c := range []byte(with(s, "        ")) {
		sum += int(c)
		if signed && c >= 128 {
			sum -= 256
		}
	}
	return sum
}

func TestSumExamples(t *testing.T) {
	for _, c := range []struct {
		letter string
		signed bool
		want   int
	}{
		{"\x00", false, 256}, {"\x00", true, 256},
		{" ", false, 16384}, {" ", true, 16384},
		{"\x7f", false, 504*127 + 256}, {"\x7f", true, 504*127 + 256},
		{"\x80", false, 504*128 + 256}, {"\x80", true, 504*-128 + 256},
		{"\xff", false, 504*255 + 256}, {"\xff", true, 504*-1 + 256},
	} {
		got, err := block.Sum(strings.Repeat(c.letter, 512), c.signed)
		if got != c.want || err != nil {
			t.Errorf("Sum of 512 bytes %q, %t = %d, %v; want %d", c.letter, c.signed, got, err, c.want)
		}
	}
}

func TestSum(t *testing.T) {
	for _, s := range headers() {
		for _, signed := range []bool{false, true} {
			for range 2 {
				got, err := block.Sum(s, signed)
				if want := wantSum(s, signed); got != want || err != nil {
					t.Errorf("Sum(%q, %t) = %d, %v; want %d", s, signed, got, err, want)
				}
			}
		}
	}
}

func TestSumOfEachByte(t *testing.T) {
	zeros := strings.Repeat("\x00", 512)
	for i := range 512 {
		for _, c := range []byte{1, 127, 128, 255} {
			s := zeros[:i] + string([]byte{c}) + zeros[i+1:]
			unsigned, signed := 256+int(c), 256+int(int8(c))
			if i >= 148 && i <= 155 {
				unsigned, signed = 256, 256
			}
			if got, err := block.Sum(s, false); got != unsigned || err != nil {
				t.Errorf("Sum, with %d at %d, = %d, %v; want %d", c, i, got, err, unsigned)
			}
			if got, err := block.Sum(s, true); got != signed || err != nil {
				t.Errorf("signed Sum, with %d at %d, = %d, %v; want %d", c, i, got, err, signed)
			}
		}
	}
}

func TestNoBlock(t *testing.T) {
	for _, s := range others() {
		for _, signed := range []bool{false, true} {
			n, err := block.Sum(s, signed)
			if e, place := plain.Place(err); n != 0 || e != api.ErrArg || place != -1 {
				t.Errorf("Sum of %d bytes, %t: %d, error %d at %d", len(s), signed, n, e, place)
			}
		}
		sealed, err := block.Seal(s)
		if e, place := plain.Place(err); sealed != "" || e != api.ErrArg || place != -1 {
			t.Errorf("Seal of %d bytes: %q, error %d at %d", len(s), sealed, e, place)
		}
		if block.Right(s) {
			t.Errorf("Right of %d bytes is true", len(s))
		}
	}
	sealed, _ := block.Seal(strings.Repeat("a", 512))
	for _, s := range []string{sealed[:511], sealed + "\x00", sealed + sealed} {
		if block.Right(s) {
			t.Errorf("Right of a sealed header as %d bytes is true", len(s))
		}
	}
}

func TestSeal(t *testing.T) {
	for _, s := range headers() {
		want := with(s, fmt.Sprintf("%06o\x00 ", wantSum(s, false)))
		got, err := block.Seal(s)
		if got != want || err != nil {
			t.Errorf("Seal(%q) = %q, %v; want %q", s, got, err, want)
		}
		if again, err := block.Seal(got); again != got || err != nil {
			t.Errorf("Seal of a sealed header is another one: %q, %v", again, err)
		}
		if !block.Right(got) {
			t.Errorf("Right(%q) is false", got)
		}
	}
	got, err := block.Seal(strings.Repeat("\x00", 512))
	if err != nil || got[148:156] != "000400\x00 " {
		t.Errorf("Seal of zero bytes has the sum %q, %v", got, err)
	}
	got, err = block.Seal(strings.Repeat("\xff", 512))
	if err != nil || got[148:156] != "373410\x00 " {
		t.Errorf("Seal of bytes 255 has the sum %q, %v", got, err)
	}
}

// TestRightForms: the sum may stand in any form that a number may have.
func TestRightForms(t *testing.T) {
	zeros, high := strings.Repeat("\x00", 512), strings.Repeat("\xff", 512)
	even := strings.Repeat("\xff\x00", 4) + strings.Repeat("\xff\x01", 252)
	none := strings.Repeat("\xff", 148) + "        " + strings.Repeat("\xff", 108) + strings.Repeat("\x00", 248)
	for _, c := range []struct {
		what, s string
		want    bool
	}{
		{"unsigned", with(zeros, "000400\x00 "), true},
		{"spaces ahead", with(zeros, "   400\x00 "), true},
		{"a space behind", with(zeros, "0000400 "), true},
		{"eight digits", with(zeros, "00000400"), true},
		{"zero bytes behind", with(zeros, "400\x00\x00\x00\x00\x00"), true},
		{"base 256", with(zeros, "\x80\x00\x00\x00\x00\x00\x01\x00"), true},
		{"one more", with(zeros, "000401\x00 "), false},
		{"one less", with(zeros, "000377\x00 "), false},
		{"decimal", with(zeros, "000256\x00 "), false},
		{"no octal", with(zeros, "000408\x00 "), false},
		{"parted", with(zeros, "000 400\x00"), false},
		{"zero bytes ahead", with(zeros, "\x00\x00000400"), false},
		{"nothing", with(zeros, "        "), false},
		{"zeros", zeros, false},
		{"unsigned, high bytes", with(high, "373410\x00 "), true},
		{"signed, below 0", with(high, "\xff\xff\xff\xff\xff\xff\xff\x08"), true},
		{"signed, one more", with(high, "\xff\xff\xff\xff\xff\xff\xff\x09"), false},
		{"both ways apart", with(even, fmt.Sprintf("%06o\x00 ", wantSum(even, false))), true},
		{"signed", with(even, fmt.Sprintf("%06o\x00 ", wantSum(even, true))), true},
		{"between both", with(even, fmt.Sprintf("%06o\x00 ", wantSum(even, true)+1)), false},
		{"signed 0, told by spaces", with(none, "        "), true},
		{"signed 0, told by zero bytes", with(none, "\x00\x00\x00\x00\x00\x00\x00\x00"), true},
		{"signed 0, but no number", with(none, "x       "), false},
		{"signed 0, but beyond numbers", with(none, "\xff\x00\x00\x00\x00\x00\x00\x00"), false},
	} {
		if got := block.Right(c.s); got != c.want {
			t.Errorf("%s: Right is %t", c.what, got)
		}
	}
}

// TestChangedByteIsSeen: neither sum of a sealed header with one other byte is
// the one that it tells.
func TestChangedByteIsSeen(t *testing.T) {
	for _, s := range headers() {
		sealed, _ := block.Seal(s)
		for i := range 512 {
			l := []byte{1, 16, 128, 255}
			if i >= 148 && i <= 155 {
				l = []byte{sealed[i] ^ (sealed[i] + 1)} // a digit 0 may also be a space
			}
			for _, bits := range l {
				b := []byte(sealed)
				b[i] ^= bits
				if block.Right(string(b)) {
					t.Errorf("Right, with byte %d changed by %d, is true", i, bits)
				}
			}
		}
	}
}
