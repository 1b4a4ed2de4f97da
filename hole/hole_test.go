package hole_test

import (
	"fmt"
	"math"
	"math/big"
	"math/rand"
	"slices"
	"strings"
	"testing"

	"revetment/api"
	"revetment/hole"
	"revetment/plain"
	"revetment/sample"
)

const (
	mostPieces = 20
	mostData   = 4000
)

// pieces are those of the places and sizes, in turn.
func pieces(numbers ...int) []api.Piece {
	var l []api.Piece
	for i := 0; i < len(numbers); i += 2 {
		l = append(l, api.Piece{At: numbers[i], Size: numbers[i+1]})
	}
	return l
}

// runs are the pieces of the marks that are not 0.
func runs(marks []byte) []api.Piece {
	var l []api.Piece
	for i, m := range marks {
		if m == 0 {
			continue
		}
		if i == 0 || marks[i-1] == 0 {
			l = append(l, api.Piece{At: i})
		}
		l[len(l)-1].Size++
	}
	return l
}

// wantRight follows the requirement word by word, without a bound of int.
func wantRight(l []api.Piece, size int) bool {
	ok := size >= 0 && len(l) <= mostPieces
	end := big.NewInt(-1)
	for _, p := range l {
		at := big.NewInt(int64(p.At))
		ok = ok && p.Size >= 1 && at.Cmp(end) > 0
		end = at.Add(at, big.NewInt(int64(p.Size)))
		ok = ok && end.Cmp(big.NewInt(int64(size))) <= 0
	}
	return ok
}

// wantFind marks the bytes of each block.
func wantFind(s string, step int) ([]api.Piece, api.Errno) {
	if step < 1 {
		return nil, api.ErrArg
	}
	var marks []byte
	for rest := s; rest != ""; {
		block := rest
		if step < len(rest) {
			block = rest[:step]
		}
		mark := byte(0)
		if block != strings.Repeat("\x00", len(block)) {
			mark = 1
		}
		marks = append(marks, slices.Repeat([]byte{mark}, len(block))...)
		rest = rest[len(block):]
	}
	l := runs(marks)
	if len(l) > mostPieces {
		return nil, api.ErrLimit
	}
	return l, api.OK
}

// wantTake asks for each byte whether it is in a piece.
func wantTake(s string, l []api.Piece) (string, api.Errno) {
	if !wantRight(l, len(s)) {
		return "", api.ErrArg
	}
	var data strings.Builder
	for i := range len(s) {
		if slices.ContainsFunc(l, func(p api.Piece) bool { return p.At <= i && i < p.At+p.Size }) {
			data.WriteByte(s[i])
		}
	}
	return data.String(), api.OK
}

func wantSize(l []api.Piece) int {
	sum := new(big.Int)
	for _, p := range l {
		sum.Add(sum, big.NewInt(int64(p.Size)))
	}
	low := new(big.Int).And(sum, new(big.Int).SetUint64(math.MaxUint64))
	return int(low.Uint64())
}

// wantPut writes what lies between the pieces, and the pieces, one behind the other.
func wantPut(data string, l []api.Piece, size int) (string, api.Errno) {
	if !wantRight(l, size) || len(data) != wantSize(l) {
		return "", api.ErrArg
	}
	if size > mostData {
		return "", api.ErrLimit
	}
	s := ""
	for _, p := range l {
		s += strings.Repeat("\x00", p.At-len(s)) + data[:p.Size]
		data = data[p.Size:]
	}
	return s + strings.Repeat("\x00", size-len(s)), api.OK
}

// sameText wants a text, or an error without a position and no text.
func sameText(t *testing.T, what, got string, err error, want string, wantErr api.Errno) {
	t.Helper()
	if e, place := plain.Place(err); e != wantErr || place != -1 || got != want {
		t.Fatalf("%s = %q, error %v at %v, want %q, %v", what, got, e, place, want, wantErr)
	}
}

func sameRight(t *testing.T, l []api.Piece, size int, want bool) {
	t.Helper()
	if got := hole.Right(l, size); got != want {
		t.Fatalf("Right(%v, %d) = %v", l, size, got)
	}
}

func sameTake(t *testing.T, s string, l []api.Piece, want string, wantErr api.Errno) {
	t.Helper()
	got, err := hole.Take(s, l)
	sameText(t, fmt.Sprintf("Take(%q, %v)", s, l), got, err, want, wantErr)
}

func samePut(t *testing.T, data string, l []api.Piece, size int, want string, wantErr api.Errno) {
	t.Helper()
	got, err := hole.Put(data, l, size)
	sameText(t, fmt.Sprintf("Put(%q, %v, %d)", data, l, size), got, err, want, wantErr)
}

// sameFind wants pieces, or an error without a position and no pieces.
func sameFind(t *testing.T, s string, step int, want []api.Piece, wantErr api.Errno) {
	t.Helper()
	got, err := hole.Find(s, step)
	if e, place := plain.Place(err); e != wantErr || place != -1 || !slices.Equal(got, want) {
		t.Fatalf("Find(%q, %d) = %v, error %v at %v, want %v, %v", s, step, got, e, place, want, wantErr)
	}
}

// checkFind holds Find against the reference, and the pieces of a file must
// hold all that it has.
func checkFind(t *testing.T, s string, step int) {
	t.Helper()
	want, wantErr := wantFind(s, step)
	sameFind(t, s, step, want, wantErr)
	if wantErr != api.OK {
		return
	}
	sameRight(t, want, len(s), true)
	data, _ := wantTake(s, want)
	sameTake(t, s, want, data, api.OK)
	if len(s) <= mostData {
		samePut(t, data, want, len(s), s, api.OK)
	}
}

// checkPieces holds what is done with pieces against the references.
func checkPieces(t *testing.T, s, data string, l []api.Piece, size int) {
	t.Helper()
	sameRight(t, l, size, wantRight(l, size))
	if got, want := hole.Size(l), wantSize(l); got != want {
		t.Fatalf("Size(%v) = %d, want %d", l, got, want)
	}
	want, wantErr := wantTake(s, l)
	sameTake(t, s, l, want, wantErr)
	want, wantErr = wantPut(data, l, size)
	samePut(t, data, l, size, want, wantErr)
	if wantErr == api.OK {
		sameTake(t, want, l, data, api.OK)
	}
}

// apart are n pieces of one byte, with one byte between them.
func apart(n int) []api.Piece {
	var l []api.Piece
	for i := range n {
		l = append(l, api.Piece{At: 2 * i, Size: 1})
	}
	return l
}

func TestRight(t *testing.T) {
	const most, least = math.MaxInt, math.MinInt
	for _, c := range []struct {
		l    []api.Piece
		size int
		want bool
	}{
		{nil, 0, true},
		{[]api.Piece{}, 0, true},
		{nil, 1, true},
		{nil, most, true},
		{nil, -1, false},
		{nil, least, false},
		{pieces(0, 0), 0, false},
		{pieces(0, 0), 1, false},
		{pieces(0, 1), 0, false},
		{pieces(0, 1), 1, true},
		{pieces(0, 1), -1, false},
		{pieces(0, 2), 1, false},
		{pieces(0, 5), 5, true},
		{pieces(1, 4), 5, true},
		{pieces(1, 5), 5, false},
		{pieces(4, 1), 5, true},
		{pieces(5, 1), 5, false},
		{pieces(5, 0), 5, false},
		{pieces(6, -1), 5, false},
		{pieces(1, -1), 5, false},
		{pieces(-1, 1), 5, false},
		{pieces(-1, 2), 5, false},
		{pieces(-1, 6), 5, false},
		{pieces(0, 1, 2, 1), 3, true},
		{pieces(0, 1, 2, 2), 3, false},
		{pieces(0, 1, 1, 1), 3, false},
		{pieces(0, 1, 0, 1), 3, false},
		{pieces(0, 2, 1, 1), 3, false},
		{pieces(2, 1, 0, 1), 3, false},
		{pieces(0, 1, -1, 1), 3, false},
		{pieces(0, 1, 2, 0), 3, false},
		{pieces(0, 0, 2, 1), 3, false},
		{pieces(0, 1, 2, 1, 4, 1), 5, true},
		{pieces(0, 1, 2, 1, 3, 1), 5, false},
		{pieces(0, 1, 4, 1, 2, 1), 5, false},
		{pieces(0, 1, 4, 2, 2, 1), 6, false},
		{pieces(0, most), most, true},
		{pieces(1, most), most, false},
		{pieces(1, most-1), most, true},
		{pieces(2, most-1), most, false},
		{pieces(most, most), most, false},
		{pieces(most, 1), most, false},
		{pieces(most-1, 1), most, true},
		{pieces(most, most), 5, false},
		{pieces(most, 2), 5, false},
		{pieces(1, most), 5, false},
		{pieces(0, most, most, 1), most, false},
		{pieces(0, most, -3, 1), most, false},
		{pieces(0, most, least, 1), most, false},
		{pieces(0, most-2, most-1, 1), most, true},
		{pieces(0, most-2, most-1, 2), most, false},
		{pieces(least, 1), 5, false},
		{pieces(least, most), 5, false},
		{pieces(0, least), 5, false},
		{pieces(most, least), most, false},
		{pieces(least, least), 5, false},
		{apart(20), 39, true},
		{apart(20), 38, false},
		{apart(20), 100, true},
		{apart(21), 41, false},
		{apart(21), 100, false},
		{apart(1000), 10000, false},
	} {
		sameRight(t, c.l, c.size, c.want)
		sameRight(t, c.l, c.size, wantRight(c.l, c.size))
	}
}

// The valid lists are those of the runs of marked bytes, and no others.
func TestRightAll(t *testing.T) {
	for size := range 6 {
		valid := map[string]bool{}
		for mask := range 1 << size {
			marks := make([]byte, size)
			for i := range marks {
				marks[i] = byte(mask >> i & 1)
			}
			valid[fmt.Sprint(runs(marks))] = true
		}
		found := 0
		var try func(l []api.Piece)
		try = func(l []api.Piece) {
			want := valid[fmt.Sprint(l)]
			if want {
				found++
			}
			sameRight(t, l, size, want)
			for at := -1; len(l) < 3 && at <= size+1; at++ {
				for n := -1; n <= size+1; n++ {
					try(append(slices.Clone(l), api.Piece{At: at, Size: n}))
				}
			}
		}
		try(nil)
		if found != len(valid) {
			t.Fatalf("%d of %d valid lists of %d bytes were tried", found, len(valid), size)
		}
	}
}

func TestFind(t *testing.T) {
	const zeros = "\x00\x00\x00\x00"
	for _, c := range []struct {
		s    string
		step int
		want []api.Piece
		err  api.Errno
	}{
		{"\x00\x00\x01\x00", 2, pieces(2, 2), api.OK},
		{"\x00\x00\x01\x00", 1, pieces(2, 1), api.OK},
		{"\x00\x00\x01\x00", 3, pieces(0, 3), api.OK},
		{"\x00\x00\x01\x00", 4, pieces(0, 4), api.OK},
		{"\x00\x00\x01\x00", 5, pieces(0, 4), api.OK},
		{"\x00\x00\x01\x00", math.MaxInt, pieces(0, 4), api.OK},
		{"\x00\x00\x01\x00", 0, nil, api.ErrArg},
		{"\x00\x00\x01\x00", -1, nil, api.ErrArg},
		{"\x00\x00\x01\x00", math.MinInt, nil, api.ErrArg},
		{"", 1, nil, api.OK},
		{"", 0, nil, api.ErrArg},
		{"", -2, nil, api.ErrArg},
		{"", math.MaxInt, nil, api.OK},
		{zeros, 1, nil, api.OK},
		{zeros, 3, nil, api.OK},
		{zeros, math.MaxInt, nil, api.OK},
		{"a", 1, pieces(0, 1), api.OK},
		{"abc", 1, pieces(0, 3), api.OK},
		{"abc", 2, pieces(0, 3), api.OK},
		{"0 \n\xff", 1, pieces(0, 4), api.OK},
		{"a\x00b", 1, pieces(0, 1, 2, 1), api.OK},
		{"a\x00b", 2, pieces(0, 3), api.OK},
		{zeros + "a", 4, pieces(4, 1), api.OK},
		{zeros + "a\x00", 4, pieces(4, 2), api.OK},
		{zeros + "a\x00", 3, pieces(3, 3), api.OK},
		{zeros + "a\x00\x00\x00\x00", 4, pieces(4, 4), api.OK},
		{"a" + zeros + "\x00b", 2, pieces(0, 2, 6, 1), api.OK},
		{"a" + zeros + "\x00b\x00", 2, pieces(0, 2, 6, 2), api.OK},
		{"\x00ab\x00" + zeros + "\x00a", 2, pieces(0, 4, 8, 2), api.OK},
		{"\x00a\x00\x00\x00b", 2, pieces(0, 2, 4, 2), api.OK},
		{strings.Repeat("a\x00", 20), 1, apart(20), api.OK},
		{strings.Repeat("a\x00", 20) + zeros, 1, apart(20), api.OK},
		{strings.Repeat("a\x00", 20) + "b", 1, nil, api.ErrLimit},
		{strings.Repeat("a\x00", 21), 1, nil, api.ErrLimit},
		{strings.Repeat("a\x00", 21), 2, pieces(0, 42), api.OK},
		{strings.Repeat("a\x00", 19) + "bb", 1, append(apart(19), api.Piece{At: 38, Size: 2}), api.OK},
		{strings.Repeat("a\x00", 1000), 1, nil, api.ErrLimit},
		{strings.Repeat("a\x00", 1000), 0, nil, api.ErrArg},
		{strings.Repeat("a", 100000), 512, pieces(0, 100000), api.OK},
		{strings.Repeat("\x00", 100000) + "a", 512, pieces(99840, 161), api.OK},
	} {
		sameFind(t, c.s, c.step, c.want, c.err)
		checkFind(t, c.s, c.step)
	}
}

func TestFindAll(t *testing.T) {
	for _, s := range sample.Texts("\x00a", 12) {
		for step := range len(s) + 3 {
			checkFind(t, s, step)
		}
	}
	for c := range 256 {
		checkFind(t, "\x00"+string([]byte{byte(c)})+"\x00", 1)
	}
}

func TestFindDrawn(t *testing.T) {
	r := rand.New(rand.NewSource(1))
	for range 20000 {
		var s strings.Builder
		for range r.Intn(25) {
			s.WriteString(strings.Repeat("\x00", r.Intn(30)))
			s.WriteString(strings.Repeat("\x01", r.Intn(3)))
		}
		checkFind(t, s.String(), r.Intn(20))
	}
}

func TestTake(t *testing.T) {
	for _, c := range []struct {
		s    string
		l    []api.Piece
		want string
		err  api.Errno
	}{
		{"", nil, "", api.OK},
		{"abc", nil, "", api.OK},
		{"abc", pieces(0, 3), "abc", api.OK},
		{"abc", pieces(1, 1), "b", api.OK},
		{"abc", pieces(0, 1, 2, 1), "ac", api.OK},
		{"a\x00b\xffc", pieces(1, 1, 3, 1), "\x00\xff", api.OK},
		{"abc", pieces(0, 4), "", api.ErrArg},
		{"abc", pieces(2, 1, 0, 1), "", api.ErrArg},
		{"abc", pieces(0, 1, 1, 1), "", api.ErrArg},
		{"abc", pieces(0, 0), "", api.ErrArg},
		{"abc", pieces(0, 1, 2, 2), "", api.ErrArg},
		{"abc", pieces(-1, 1), "", api.ErrArg},
		{"", pieces(0, 1), "", api.ErrArg},
		{"abc", pieces(math.MaxInt, math.MaxInt), "", api.ErrArg},
		{"abc", pieces(1, math.MaxInt), "", api.ErrArg},
		{strings.Repeat("ab", 20), apart(20), strings.Repeat("a", 20), api.OK},
		{strings.Repeat("ab", 21), apart(21), "", api.ErrArg},
		{strings.Repeat("a", 100000), pieces(1, 99999), strings.Repeat("a", 99999), api.OK},
	} {
		sameTake(t, c.s, c.l, c.want, c.err)
	}
}

func TestSize(t *testing.T) {
	const most, least = math.MaxInt, math.MinInt
	for _, c := range []struct {
		l    []api.Piece
		want int
	}{
		{nil, 0},
		{pieces(5, 0), 0},
		{pieces(5, 7), 7},
		{pieces(0, 1, 2, 3), 4},
		{pieces(9, 1, 2, 3, 2, 3), 7},
		{pieces(0, -5, 0, 3), -2},
		{pieces(0, most, 0, 1), least},
		{pieces(0, most, 0, most), -2},
		{pieces(0, most, 0, most, 0, 2), 0},
		{pieces(0, least, 0, -1), most},
		{pieces(0, least, 0, least), 0},
		{apart(1000), 1000},
	} {
		if got := hole.Size(c.l); got != c.want {
			t.Errorf("Size(%v) = %d, want %d", c.l, got, c.want)
		}
	}
}

func TestPut(t *testing.T) {
	const most, least = math.MaxInt, math.MinInt
	zeros := func(n int) string { return strings.Repeat("\x00", n) }
	for _, c := range []struct {
		data string
		l    []api.Piece
		size int
		want string
		err  api.Errno
	}{
		{"", nil, 0, "", api.OK},
		{"", nil, 3, zeros(3), api.OK},
		{"", nil, 4000, zeros(4000), api.OK},
		{"", nil, 4001, "", api.ErrLimit},
		{"", nil, most, "", api.ErrLimit},
		{"", nil, -1, "", api.ErrArg},
		{"", nil, least, "", api.ErrArg},
		{"a", nil, 3, "", api.ErrArg},
		{"a", nil, 4001, "", api.ErrArg},
		{"abc", pieces(0, 3), 3, "abc", api.OK},
		{"abc", pieces(1, 3), 5, "\x00abc\x00", api.OK},
		{"abc", pieces(0, 1, 2, 1, 4, 1), 5, "a\x00b\x00c", api.OK},
		{"abc", pieces(1, 2, 5, 1), 8, "\x00ab\x00\x00c\x00\x00", api.OK},
		{"\x00\xff", pieces(1, 2), 4, "\x00\x00\xff\x00", api.OK},
		{"ab", pieces(0, 3), 3, "", api.ErrArg},
		{"abcd", pieces(0, 3), 4, "", api.ErrArg},
		{"", pieces(0, 3), 3, "", api.ErrArg},
		{"abc", pieces(0, 3), 2, "", api.ErrArg},
		{"ab", pieces(0, 1, 1, 1), 2, "", api.ErrArg},
		{"", pieces(0, 0), 2, "", api.ErrArg},
		{"", pieces(0, 1, 2, -1), 5, "", api.ErrArg},
		{"", pieces(0, most, 0, most, 0, 2), most, "", api.ErrArg},
		{strings.Repeat("a", 4000), pieces(0, 4000), 4000, strings.Repeat("a", 4000), api.OK},
		{strings.Repeat("a", 4001), pieces(0, 4001), 4001, "", api.ErrLimit},
		{strings.Repeat("a", 4000), pieces(0, 4000), 4001, "", api.ErrLimit},
		{"a", pieces(3999, 1), 4000, zeros(3999) + "a", api.OK},
		{"a", pieces(4000, 1), 4000, "", api.ErrArg},
		{"a", pieces(4000, 1), 4001, "", api.ErrLimit},
		{"a", pieces(most-1, 1), most, "", api.ErrLimit},
		{"a", pieces(most, 1), most, "", api.ErrArg},
		{"aa", pieces(most-1, 1), most, "", api.ErrArg},
		{strings.Repeat("a", 20), apart(20), 40, strings.Repeat("a\x00", 20), api.OK},
		{strings.Repeat("a", 20), apart(20), 5000, "", api.ErrLimit},
		{strings.Repeat("a", 21), apart(21), 42, "", api.ErrArg},
		{strings.Repeat("a", 21), apart(21), 5000, "", api.ErrArg},
	} {
		samePut(t, c.data, c.l, c.size, c.want, c.err)
		want, wantErr := wantPut(c.data, c.l, c.size)
		samePut(t, c.data, c.l, c.size, want, wantErr)
	}
}

// drawn are pieces that are mostly in order, but not always apart or within bounds.
func drawn(r *rand.Rand, most int) []api.Piece {
	var l []api.Piece
	at := 0
	for range r.Intn(most) {
		p := api.Piece{At: at + r.Intn(4), Size: 1 + r.Intn(4)}
		switch r.Intn(60) {
		case 0:
			p.At -= 5
		case 1:
			p.Size = r.Intn(4) - 2
		case 2:
			p.At = math.MaxInt - r.Intn(3)
		case 3:
			p.Size = math.MaxInt - r.Intn(3)
		case 4:
			p.Size = math.MinInt + r.Intn(3)
		}
		at = p.At + p.Size
		if r.Intn(8) > 0 {
			at++
		}
		l = append(l, p)
	}
	return l
}

func TestDrawn(t *testing.T) {
	r := rand.New(rand.NewSource(2))
	text := strings.Repeat("abcdefghijklmnopqrstuvwxyz", 8)
	for range 50000 {
		l := drawn(r, 5+20*r.Intn(2))
		n := min(max(hole.Size(l), 0), len(text))
		if r.Intn(10) == 0 {
			n = max(n-1, 0)
		}
		size := 0
		if len(l) > 0 {
			size = l[len(l)-1].At + l[len(l)-1].Size
		}
		size += r.Intn(6) - 1
		checkPieces(t, text[:r.Intn(len(text))], text[:n], l, size)
	}
}

func TestArgumentsStay(t *testing.T) {
	r := rand.New(rand.NewSource(3))
	for range 1000 {
		l := drawn(r, 8)
		all := append(slices.Clone(l), api.Piece{At: 1, Size: 2}, api.Piece{At: 3, Size: 4})
		before := slices.Clone(all)
		part := all[:len(l)]
		_ = hole.Right(part, 40)
		_, _ = hole.Take(strings.Repeat("a", 40), part)
		_, _ = hole.Put(strings.Repeat("a", max(0, min(40, hole.Size(part)))), part, 40)
		if !slices.Equal(all, before) {
			t.Fatalf("%v became %v", before, all)
		}
	}
	first, _ := hole.Find("a\x00b", 1)
	first[0] = api.Piece{}
	sameFind(t, "a\x00b", 1, pieces(0, 1, 2, 1), api.OK)
}

func Example() {
	file := "ab" + strings.Repeat("\x00", 9) + "c"
	l, _ := hole.Find(file, 4)
	fmt.Println(l, hole.Size(l))
	data, _ := hole.Take(file, l)
	fmt.Printf("%q\n", data)
	again, _ := hole.Put(data, l, len(file))
	fmt.Println(again == file)
	_, err := hole.Put("abc", l, len(file))
	fmt.Println(api.Tell(err) == api.ErrArg)
	// Output:
	// [{0 4} {8 4}] 8
	// "ab\x00\x00\x00\x00\x00c"
	// true
	// true
}

func FuzzPieces(f *testing.F) {
	f.Add("a\x00\x00b", 2, 0, 1, 2, 1, 4)
	f.Add("\x00", math.MaxInt, math.MaxInt, 1, -1, 2, math.MaxInt)
	f.Fuzz(func(t *testing.T, s string, step, at, n, nextAt, nextSize, size int) {
		checkFind(t, s, step)
		checkPieces(t, s, s, pieces(at, n, nextAt, nextSize), size)
	})
}
