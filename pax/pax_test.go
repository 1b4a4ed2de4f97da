package pax_test

import (
	"fmt"
	"math/rand"
	"slices"
	"strconv"
	"strings"
	"testing"

	"revetment/api"
	"revetment/pax"
	"revetment/plain"
)

const (
	mostBytes = 200
	mostPairs = 20
)

func repeat(s string, n int) string { return strings.Repeat(s, n) }

func wantRight(p api.Pair) bool {
	if len(p.Key) == 0 || len(p.Key)+len(p.Value) > mostBytes {
		return false
	}
	for i := range len(p.Key) {
		if p.Key[i] == '=' || p.Key[i] == 10 {
			return false
		}
	}
	return true
}

// wantRecord tries all lengths, as the shortest one counts.
func wantRecord(p api.Pair) (string, api.Errno) {
	if !wantRight(p) {
		return "", api.ErrArg
	}
	rest := fmt.Sprintf(" %s=%s\n", p.Key, p.Value)
	for n := 1; ; n++ {
		if digits := strconv.Itoa(n); len(digits)+len(rest) == n {
			return digits + rest, 0
		}
	}
}

// drawn is a pair of few different bytes, as these are invalid more often and meet more often.
func drawn(r *rand.Rand) api.Pair {
	word := func(letters string, most int) string {
		b := make([]byte, r.Intn(most+1))
		for i := range b {
			b[i] = letters[r.Intn(len(letters))]
		}
		return string(b)
	}
	p := api.Pair{Key: word("ab", 2), Value: word("0123 =\nab\x00\xff", 8)}
	switch r.Intn(12) {
	case 0:
		p.Key = word("ab=\n 1\x00\xff", 12)
	case 1:
		p.Value = word("0123 =\nab\x00\xff", 210)
	case 2:
		p.Key = word("abcdefgh", 210)
	}
	return p
}

func drawnList(r *rand.Rand, most int) []api.Pair {
	l := make([]api.Pair, r.Intn(most+1))
	for i := range l {
		l[i] = drawn(r)
	}
	return l
}

// validList is a list that Write takes.
func validList(r *rand.Rand, most int) []api.Pair {
	return slices.DeleteFunc(drawnList(r, most), func(p api.Pair) bool { return !wantRight(p) })
}

func pairs(n int) []api.Pair {
	l := make([]api.Pair, n)
	for i := range l {
		l[i] = api.Pair{Key: "k", Value: fmt.Sprint(i)}
	}
	return l
}

func TestRight(t *testing.T) {
	for _, c := range []struct {
		key, value string
		want       bool
	}{
		{"path", "a", true},
		{"a", "", true},
		{"", "", false},
		{"", "a", false},
		{"=", "a", false},
		{"a=", "a", false},
		{"=a", "a", false},
		{"a=b", "", false},
		{"\n", "a", false},
		{"a\n", "a", false},
		{"\na", "a", false},
		{repeat("k", 100) + "=", "", false},
		{repeat("k", 100) + "\n", "", false},
		{"a", "=", true},
		{"a", "\n", true},
		{"a", "b=c\nd=", true},
		{" ", " ", true},
		{"12 a", "12 a", true},
		{"\r", "\r", true},
		{"\x00", "\x00", true},
		{"\xff\xfe", "\xff", true},
		{"\u00e9", "\u00e9", true},
		{"<", "", true},
		{">", "", true},
		{"\t", "", true},
		{"\v", "", true},
		{repeat("k", 200), "", true},
		{repeat("k", 201), "", false},
		{"k", repeat("v", 199), true},
		{"k", repeat("v", 200), false},
		{repeat("k", 100), repeat("v", 100), true},
		{repeat("k", 100), repeat("v", 101), false},
		{"", repeat("v", 200), false},
		{"k", repeat("v", 100000), false},
		{repeat("k", 100000), "", false},
		{repeat("\u00e9", 100), "", true},
		{repeat("\u00e9", 100), "a", false},
	} {
		p := api.Pair{Key: c.key, Value: c.value}
		if got := pax.Right(p); got != c.want {
			t.Errorf("Right(%.100q) = %t", p, got)
		}
	}
	r := rand.New(rand.NewSource(1))
	for range 20000 {
		p := drawn(r)
		if got := pax.Right(p); got != wantRight(p) {
			t.Errorf("Right(%q) = %t", p, got)
		}
	}
}

func sameRecord(t *testing.T, p api.Pair, want string, wantErr api.Errno) {
	t.Helper()
	got, err := pax.Record(p)
	e, place := plain.Place(err)
	if got != want || e != wantErr || place != -1 {
		t.Errorf("Record(%.100q): got %q, error %d at %d; want %q, error %d at -1", p, got, e, place, want, wantErr)
	}
}

func TestRecordExamples(t *testing.T) {
	for _, c := range []struct {
		key, value, want string
		err              api.Errno
	}{
		{"path", "a", "9 path=a\n", 0},
		{"a", "", "5 a=\n", 0},
		{"a", "1234", "9 a=1234\n", 0}, // 10 would be its own length, too
		{"a", "12345", "11 a=12345\n", 0},
		{"a", repeat("v", 91), "97 a=" + repeat("v", 91) + "\n", 0},
		{"a", repeat("v", 93), "99 a=" + repeat("v", 93) + "\n", 0}, // and 100 here
		{"a", repeat("v", 94), "101 a=" + repeat("v", 94) + "\n", 0},
		{"a", repeat("v", 199), "206 a=" + repeat("v", 199) + "\n", 0},
		{repeat("k", 200), "", "206 " + repeat("k", 200) + "=\n", 0},
		{"a", "b=c\nd", "11 a=b=c\nd\n", 0},
		{"a", "\n", "6 a=\n\n", 0},
		{" ", " ", "6  = \n", 0},
		{"\x00", "\x00\xff", "7 \x00=\x00\xff\n", 0},
		{"\u00e9", "", "6 \u00e9=\n", 0},
		{"", "a", "", api.ErrArg},
		{"", "", "", api.ErrArg},
		{"a=b", "a", "", api.ErrArg},
		{"a\n", "a", "", api.ErrArg},
		{"a", repeat("v", 200), "", api.ErrArg},
		{repeat("k", 201), "", "", api.ErrArg},
	} {
		sameRecord(t, api.Pair{Key: c.key, Value: c.value}, c.want, c.err)
	}
}

func TestRecord(t *testing.T) {
	for n := range 210 {
		for _, p := range []api.Pair{{Key: "a", Value: repeat("v", n)}, {Key: repeat("k", n)}} {
			want, e := wantRecord(p)
			sameRecord(t, p, want, e)
		}
	}
	r := rand.New(rand.NewSource(2))
	for range 5000 {
		p := drawn(r)
		want, e := wantRecord(p)
		sameRecord(t, p, want, e)
	}
}

func sameWrite(t *testing.T, l []api.Pair, want string, wantErr api.Errno, wantPlace int) {
	t.Helper()
	got, err := pax.Write(l)
	e, place := plain.Place(err)
	if got != want || e != wantErr || place != wantPlace {
		t.Errorf("Write(%.300q): got %q, error %d at %d; want %q, error %d at %d", l, got, e, place, want, wantErr, wantPlace)
	}
}

func TestWriteExamples(t *testing.T) {
	good, bad := api.Pair{Key: "path", Value: "a"}, api.Pair{Key: "=", Value: "a"}
	sameWrite(t, nil, "", 0, -1)
	sameWrite(t, []api.Pair{}, "", 0, -1)
	sameWrite(t, []api.Pair{good}, "9 path=a\n", 0, -1)
	sameWrite(t, []api.Pair{good, {Key: "b"}, good}, "9 path=a\n5 b=\n9 path=a\n", 0, -1)
	sameWrite(t, []api.Pair{{Key: "b", Value: "1"}, {Key: "a", Value: "2"}}, "6 b=1\n6 a=2\n", 0, -1)
	sameWrite(t, []api.Pair{bad}, "", api.ErrArg, 0)
	sameWrite(t, []api.Pair{good, good, bad, bad}, "", api.ErrArg, 2)
	sameWrite(t, []api.Pair{good, {}}, "", api.ErrArg, 1)
	sameWrite(t, []api.Pair{good, {Key: "k", Value: repeat("v", 200)}}, "", api.ErrArg, 1)
	full := slices.Repeat([]api.Pair{good}, mostPairs)
	sameWrite(t, full, repeat("9 path=a\n", mostPairs), 0, -1)
	sameWrite(t, append(full[:mostPairs-1:mostPairs-1], bad), "", api.ErrArg, mostPairs-1)
	long := api.Pair{Key: "k", Value: repeat("v", 199)}
	sameWrite(t, slices.Repeat([]api.Pair{long}, mostPairs), repeat("206 k="+repeat("v", 199)+"\n", mostPairs), 0, -1)
	// Too many comes ahead of not valid.
	for _, l := range [][]api.Pair{
		pairs(mostPairs + 1),
		append([]api.Pair{bad}, full...),
		append(pairs(mostPairs), bad),
		make([]api.Pair, mostPairs+1),
		pairs(1000),
	} {
		sameWrite(t, l, "", api.ErrLimit, -1)
	}
}

func TestWrite(t *testing.T) {
	r := rand.New(rand.NewSource(3))
	for range 5000 {
		l := drawnList(r, 23)
		if r.Intn(2) == 0 {
			l = validList(r, 23)
		}
		want, wantErr, wantPlace := "", api.OK, -1
		for i, p := range l {
			s, e := wantRecord(p)
			if e != 0 {
				want, wantErr, wantPlace = "", e, i
				break
			}
			want += s
		}
		if len(l) > mostPairs {
			want, wantErr, wantPlace = "", api.ErrLimit, -1
		}
		sameWrite(t, l, want, wantErr, wantPlace)
	}
}

// sameRead checks Read twice: what it answers hangs on its argument alone.
func sameRead(t *testing.T, s string, want []api.Pair, wantErr api.Errno, wantPlace int) {
	t.Helper()
	for range 2 {
		got, err := pax.Read(s)
		e, place := plain.Place(err)
		if !slices.Equal(got, want) || e != wantErr || place != wantPlace {
			t.Errorf("Read(%.300q): got %q, error %d at %d; want %q, error %d at %d", s, got, e, place, want, wantErr, wantPlace)
		}
		// What is done to an answer does not reach the next one.
		for i := range got {
			got[i] = api.Pair{Key: "changed"}
		}
	}
}

func TestReadExamples(t *testing.T) {
	for _, c := range []struct {
		s    string
		want []api.Pair
	}{
		{"", nil},
		{"9 path=a\n", []api.Pair{{Key: "path", Value: "a"}}},
		{"5 a=\n", []api.Pair{{Key: "a"}}},
		{"9 a=1234\n", []api.Pair{{Key: "a", Value: "1234"}}},
		{"11 a=12345\n", []api.Pair{{Key: "a", Value: "12345"}}},
		{"6 b=1\n6 a=2\n6 b=3\n", []api.Pair{{Key: "b", Value: "1"}, {Key: "a", Value: "2"}, {Key: "b", Value: "3"}}},
		{"5 a=\n5 a=\n", []api.Pair{{Key: "a"}, {Key: "a"}}},
		{"11 a=b=c\nd\n", []api.Pair{{Key: "a", Value: "b=c\nd"}}},
		{"6 a==\n", []api.Pair{{Key: "a", Value: "="}}},
		{"6 a=\n\n", []api.Pair{{Key: "a", Value: "\n"}}},
		{"11 a=5 b=\n\n", []api.Pair{{Key: "a", Value: "5 b=\n"}}},
		{"6  = \n", []api.Pair{{Key: " ", Value: " "}}},
		{"9 3 b c=\n", []api.Pair{{Key: "3 b c"}}},
		{"7 \x00=\x00\xff\n", []api.Pair{{Key: "\x00", Value: "\x00\xff"}}},
		{"99 a=" + repeat("v", 93) + "\n", []api.Pair{{Key: "a", Value: repeat("v", 93)}}},
		{"206 a=" + repeat("v", 199) + "\n", []api.Pair{{Key: "a", Value: repeat("v", 199)}}},
		{"206 " + repeat("k", 200) + "=\n", []api.Pair{{Key: repeat("k", 200)}}},
		{repeat("6 a=b\n", mostPairs), slices.Repeat([]api.Pair{{Key: "a", Value: "b"}}, mostPairs)},
	} {
		sameRead(t, c.s, c.want, 0, -1)
	}
}

func TestReadErrors(t *testing.T) {
	full := repeat("6 a=b\n", mostPairs)
	for _, c := range []struct {
		s   string
		err api.Errno
	}{
		{"x", api.ErrForm},
		{"\n", api.ErrForm},
		{" ", api.ErrForm},
		{"\x00", api.ErrForm},
		{"0", api.ErrForm},
		{"1", api.ErrForm},
		{"5", api.ErrForm},
		{"5 ", api.ErrForm},
		{"5 a", api.ErrForm},
		{"5 a=", api.ErrForm},
		{"5 a=x", api.ErrForm},
		{"5 a=\r", api.ErrForm},
		{"0 a=\n", api.ErrForm},
		{"1 a=\n", api.ErrForm},
		{"2 a=\n", api.ErrForm},
		{"3 a=\n", api.ErrForm},
		{"4 a=\n", api.ErrForm},
		{"6 a=\n", api.ErrForm},
		{"4 =\n", api.ErrForm},
		{"5 =a\n", api.ErrForm},
		{"5 ==\n", api.ErrForm},
		{"4 a\n", api.ErrForm},
		{"5 ab\n", api.ErrForm},
		{"6 \n=a\n", api.ErrForm},
		{"7 a\n=b\n", api.ErrForm},
		{"3 \n", api.ErrForm},
		{"2\n", api.ErrForm},
		{"5a=b\n", api.ErrForm},
		{"5\ta=\n", api.ErrForm},
		{"5=a \n", api.ErrForm},
		{" 6 a=\n", api.ErrForm},
		{"06 a=\n", api.ErrForm},
		{"006 a=1\n", api.ErrForm},
		{"008 a=1\n", api.ErrForm},
		{"+6 a=\n", api.ErrForm},
		{"+7 a=1\n", api.ErrForm},
		{"-6 a=\n", api.ErrForm},
		{"-7 a=1\n", api.ErrForm},
		{"1_0 a=12\n", api.ErrForm},
		{"0x9 a=12\n", api.ErrForm},
		{"\u0665 a=\n", api.ErrForm},
		{"\uff15 a=\n", api.ErrForm},
		{"10 a=1234\n", api.ErrForm}, // as long as it says, but not the smallest length
		{"100 a=" + repeat("v", 93) + "\n", api.ErrForm},
		{"207 a=" + repeat("v", 200) + "\n", api.ErrForm},
		{"207 " + repeat("k", 201) + "=\n", api.ErrForm},
		{"99 a=b\n", api.ErrForm},
		{"9223372036854775807 a=b\n", api.ErrForm},
		{"9223372036854775808 a=b\n", api.ErrForm},
		{"18446744073709551621 a=\n", api.ErrForm},
		{"18446744073709551616 a=\n", api.ErrForm},
		{"-9223372036854775808 a=\n", api.ErrForm},
		{repeat("9", 1000) + " a=\n", api.ErrForm},
		{repeat("0", 1000) + "5 a=\n", api.ErrForm},
		{repeat("1", 100000), api.ErrForm},
		{repeat(" ", 100000), api.ErrForm},
		{"100007 a=" + repeat("v", 99997) + "\n", api.ErrForm},
	} {
		// Behind other records the place is where the bad one begins.
		sameRead(t, c.s, nil, c.err, 0)
		sameRead(t, "9 path=a\n"+c.s, nil, c.err, 9)
		sameRead(t, "5 a=\n9 path=a\n"+c.s, nil, c.err, 14)
		sameRead(t, full+c.s, nil, c.err, len(full))
		sameRead(t, c.s+full, nil, c.err, 0)
	}
}

func TestReadLimit(t *testing.T) {
	full := repeat("6 a=b\n", mostPairs)
	sameRead(t, full+"5 a=\n", nil, api.ErrLimit, len(full))
	sameRead(t, full+full, nil, api.ErrLimit, len(full))
	sameRead(t, full+"5 a=\nx", nil, api.ErrLimit, len(full))
	sameRead(t, full+"5 a=x", nil, api.ErrForm, len(full))
	sameRead(t, full[6:]+"5 a=\nx", nil, api.ErrForm, len(full)-1)
	sameRead(t, "x"+full+full, nil, api.ErrForm, 0)
	long := repeat("206 k="+repeat("v", 199)+"\n", mostPairs)
	sameRead(t, long+"5 a=\n", nil, api.ErrLimit, len(long))
}

// wantFirst tries all that could be a key and a value at the beginning of s.
func wantFirst(t *testing.T, s string) (api.Pair, int) {
	t.Helper()
	var found api.Pair
	length, count := 0, 0
	for end := 1; end <= len(s) && end <= 210; end++ {
		if s[end-1] != '\n' {
			continue
		}
		for space := range min(end, 4) {
			for equal := space + 1; equal < end-1; equal++ {
				if s[equal] != '=' {
					continue
				}
				p := api.Pair{Key: s[space+1 : equal], Value: s[equal+1 : end-1]}
				if !wantRight(p) {
					continue
				}
				if record, _ := wantRecord(p); record == s[:end] {
					found, length = p, end
					count++
				}
			}
		}
	}
	if count > 1 {
		t.Errorf("%q begins with the records of %d pairs", s, count)
	}
	return found, length
}

func wantRead(t *testing.T, s string) ([]api.Pair, api.Errno, int) {
	t.Helper()
	var l []api.Pair
	for at := 0; at < len(s); {
		p, length := wantFirst(t, s[at:])
		if length == 0 {
			return nil, api.ErrForm, at
		}
		if len(l) >= mostPairs {
			return nil, api.ErrLimit, at
		}
		l = append(l, p)
		at += length
	}
	return l, 0, -1
}

// checkRead holds Read against the reference; what it accepts is written the same way.
func checkRead(t *testing.T, s string) {
	t.Helper()
	want, e, place := wantRead(t, s)
	sameRead(t, s, want, e, place)
	if e == 0 {
		sameWrite(t, want, s, 0, -1)
	}
}

func TestReadDrawn(t *testing.T) {
	r := rand.New(rand.NewSource(4))
	for _, letters := range []string{"56789 a=\n", "0156 a=\n", "1056a =\n+-"} {
		for range 20000 {
			b := make([]byte, r.Intn(12))
			for i := range b {
				b[i] = letters[r.Intn(len(letters))]
			}
			checkRead(t, string(b))
			checkRead(t, fmt.Sprintf("%d %s\n", r.Intn(15), b))
			checkRead(t, fmt.Sprintf("%d a=%s\n", r.Intn(15), b))
		}
	}
}

func TestReadEachByte(t *testing.T) {
	for _, s := range []string{"5 a=\n", "9 path=a\n", "11 a=12345\n", "5 a=\n6 b=1\n"} {
		for i := range len(s) {
			checkRead(t, s[:i])
			checkRead(t, s[i:])
			for c := range 256 {
				b := string([]byte{byte(c)})
				checkRead(t, s[:i]+b+s[i:])
				checkRead(t, s[:i]+b+s[i+1:])
				checkRead(t, s+b)
			}
		}
	}
}

func TestWriteIsReadBack(t *testing.T) {
	r := rand.New(rand.NewSource(5))
	for range 1000 {
		l := validList(r, mostPairs)
		s, err := pax.Write(l)
		if err != nil {
			t.Errorf("Write(%q): %v", l, err)
		}
		sameRead(t, s, l, 0, -1)
		if len(s) > 0 {
			checkRead(t, s[:r.Intn(len(s))])
		}
	}
}

func TestMergeExamples(t *testing.T) {
	a := func(value string) api.Pair { return api.Pair{Key: "a", Value: value} }
	b := func(value string) api.Pair { return api.Pair{Key: "b", Value: value} }
	for _, c := range []struct{ lists, want [][]api.Pair }{
		{nil, nil},
		{[][]api.Pair{nil}, nil},
		{[][]api.Pair{nil, {}, nil}, nil},
		{[][]api.Pair{{a("1")}}, [][]api.Pair{{a("1")}}},
		{[][]api.Pair{{b("2"), a("1")}}, [][]api.Pair{{a("1"), b("2")}}},
		{[][]api.Pair{{a("1"), a("2")}}, [][]api.Pair{{a("2")}}},
		{[][]api.Pair{{a("2")}, {a("1")}}, [][]api.Pair{{a("1")}}},
		{[][]api.Pair{{a("2")}, {a("1")}, nil}, [][]api.Pair{{a("1")}}},
		{[][]api.Pair{{a("1"), b("1")}, {b("2")}}, [][]api.Pair{{a("1"), b("2")}}},
		{[][]api.Pair{{b("1")}, {a("2")}}, [][]api.Pair{{a("2"), b("1")}}},
		{[][]api.Pair{{a("")}}, nil},
		{[][]api.Pair{{a("1"), a("")}}, nil},
		{[][]api.Pair{{a("1")}, {a("")}}, nil},
		{[][]api.Pair{{a("")}, {a("1")}}, [][]api.Pair{{a("1")}}},
		{[][]api.Pair{{a("1")}, {a("")}, {a("2")}}, [][]api.Pair{{a("2")}}},
		{[][]api.Pair{{a("1"), b("1")}, {a("")}}, [][]api.Pair{{b("1")}}},
		// Keys are sorted as bytes, and pairs need not be valid.
		{[][]api.Pair{{{Key: "\xff", Value: "1"}, {Key: "\u00e9", Value: "2"}, {Key: "a", Value: "3"}, {Key: "aa", Value: "4"}, {Key: "B", Value: "5"}, {Key: "a=", Value: "6"}, {Key: "", Value: "7"}, {Key: "a\x00", Value: "8"}}},
			[][]api.Pair{{{Key: "", Value: "7"}, {Key: "B", Value: "5"}, {Key: "a", Value: "3"}, {Key: "a\x00", Value: "8"}, {Key: "a=", Value: "6"}, {Key: "aa", Value: "4"}, {Key: "\u00e9", Value: "2"}, {Key: "\xff", Value: "1"}}}},
		{[][]api.Pair{{{Key: "k", Value: repeat("v", 300)}}}, [][]api.Pair{{{Key: "k", Value: repeat("v", 300)}}}},
	} {
		if got, want := pax.Merge(c.lists...), slices.Concat(c.want...); !slices.Equal(got, want) {
			t.Errorf("Merge(%q) = %q, want %q", c.lists, got, want)
		}
	}
	if got := pax.Merge(pairs(1000), pairs(1001)); !slices.Equal(got, []api.Pair{{Key: "k", Value: "1000"}}) {
		t.Errorf("Merge of two long lists = %q", got)
	}
}

// wantGet looks from the front; wantMerge asks it for each key.
func wantGet(l []api.Pair, key string) (string, bool) {
	value := ""
	for _, p := range l {
		if p.Key == key {
			value = p.Value
		}
	}
	return value, value != ""
}

func wantMerge(l []api.Pair) []api.Pair {
	var keys []string
	for _, p := range l {
		keys = append(keys, p.Key)
	}
	slices.Sort(keys)
	var merged []api.Pair
	for _, key := range slices.Compact(keys) {
		if value, ok := wantGet(l, key); ok {
			merged = append(merged, api.Pair{Key: key, Value: value})
		}
	}
	return merged
}

func TestMerge(t *testing.T) {
	r := rand.New(rand.NewSource(6))
	for range 3000 {
		lists := make([][]api.Pair, r.Intn(5))
		for i := range lists {
			lists[i] = drawnList(r, 8)
		}
		want := wantMerge(slices.Concat(lists...))
		for range 3 {
			got := pax.Merge(lists...)
			if !slices.Equal(got, want) {
				t.Errorf("Merge(%q) = %q, want %q", lists, got, want)
			}
			if again := pax.Merge(got); !slices.Equal(again, want) {
				t.Errorf("Merge(%q) = %q", got, again)
			}
			for i := range got {
				got[i] = api.Pair{Key: "changed", Value: "changed"}
			}
		}
	}
}

func TestGet(t *testing.T) {
	l := []api.Pair{{Key: "a", Value: "1"}, {Key: "b", Value: "2"}, {Key: "a", Value: "3"}, {Key: "c", Value: "4"}, {Key: "c"}, {Key: "d"}, {Key: "d", Value: "5"}, {Key: "e"}, {Key: "x=", Value: "6"}}
	for _, c := range []struct {
		key, want string
		ok        bool
	}{
		{"a", "3", true},
		{"b", "2", true},
		{"c", "", false},
		{"d", "5", true},
		{"e", "", false},
		{"f", "", false},
		{"A", "", false},
		{"aa", "", false},
		{"", "", false},
		{"x=", "6", true},
		{"x", "", false},
	} {
		if got, ok := pax.Get(l, c.key); got != c.want || ok != c.ok {
			t.Errorf("Get(%q, %q) = %q, %t", l, c.key, got, ok)
		}
		if got, ok := pax.Get(nil, c.key); got != "" || ok {
			t.Errorf("Get(nil, %q) = %q, %t", c.key, got, ok)
		}
	}
	if got, ok := pax.Get([]api.Pair{{Key: "", Value: "1"}}, ""); got != "1" || !ok {
		t.Errorf("Get of an empty key = %q, %t", got, ok)
	}
	r := rand.New(rand.NewSource(7))
	for range 5000 {
		l := drawnList(r, 12)
		for _, key := range []string{"", "a", "b", "ab", "aa", "c"} {
			want, wantOK := wantGet(l, key)
			if got, ok := pax.Get(l, key); got != want || ok != wantOK {
				t.Errorf("Get(%q, %q) = %q, %t", l, key, got, ok)
			}
		}
	}
}

// TestArgumentsStay: lists stay as they were, the memory behind them, too.
func TestArgumentsStay(t *testing.T) {
	r := rand.New(rand.NewSource(8))
	for range 500 {
		backing := drawnList(r, 30)
		before := slices.Clone(backing)
		mid := r.Intn(len(backing) + 1)
		front, back := backing[:mid], backing[mid:]
		lists := [][]api.Pair{front, back, front}
		_, _ = pax.Write(front)
		merged := pax.Merge(lists...)
		pax.Get(front, "a")
		for i := range merged {
			merged[i] = api.Pair{Key: "changed", Value: "changed"}
		}
		_ = append(merged, api.Pair{Key: "changed", Value: "changed"})
		if !slices.Equal(backing, before) {
			t.Errorf("%q became %q", before, backing)
		}
		if len(lists[0]) != mid || len(lists[1]) != len(backing)-mid || len(lists[2]) != mid {
			t.Errorf("the lists of lists changed")
		}
	}
}

func FuzzRead(f *testing.F) {
	f.Add("9 path=a\n5 a=\n")
	f.Add("11 a=12345\nx")
	f.Fuzz(func(t *testing.T, s string) {
		if len(s) < 1000 {
			checkRead(t, s)
		}
	})
}
