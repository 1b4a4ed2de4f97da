package member_test

import (
	"fmt"
	"math"
	"math/rand"
	"reflect"
	"strings"
	"testing"

	"revetment/api"
	"revetment/hole"
	"revetment/member"
)

var dialects = []int{api.V7, api.Ustar, api.Gnu, api.Pax}

var noDialects = []int{math.MinInt, -1, 0, 5, 6, math.MaxInt}

// The kinds of members, and those of links, devices and what has no data.
const (
	allKinds = "0123456"
	links    = "12"
	devices  = "34"
	noData   = "123456"
)

// least is a member of a kind, with nothing that it can do without.
func least(kind byte) api.Entry {
	e := api.Entry{Name: "a", Kind: kind}
	if is(links, kind) {
		e.Link = "b"
	}
	return e
}

// full is a member of a kind, with all that it can have.
func full(kind byte) api.Entry {
	e := api.Entry{
		Name: "dir/name", Kind: kind, Mode: 0o4755, Uid: 1000, Gid: 100,
		Time: api.Time{Sec: 1 << 30}, User: "user", Group: "group",
	}
	switch {
	case kind == '0':
		e.Data, e.Size = "data", 4
	case is(links, kind):
		e.Link = "dir/to"
	case is(devices, kind):
		e.Major, e.Minor = 8, 17
	}
	return e
}

func is(kinds string, kind byte) bool {
	return strings.IndexByte(kinds, kind) >= 0
}

// file is one with pieces, each of them at a place and of a size, in turn.
func file(size int, data string, numbers ...int) api.Entry {
	e := least('0')
	e.Size, e.Data = size, data
	for i := 0; i < len(numbers); i += 2 {
		e.Map = append(e.Map, api.Piece{At: numbers[i], Size: numbers[i+1]})
	}
	return e
}

// apart is a file with n pieces of one byte, with one byte between them.
func apart(n int) api.Entry {
	e := file(2*n, "")
	for i := range n {
		e.Map = append(e.Map, api.Piece{At: 2 * i, Size: 1})
		e.Data += string(rune('a' + i%26))
	}
	return e
}

func sameEntry(a, b api.Entry) bool {
	if len(a.Map) == 0 && len(b.Map) == 0 {
		a.Map, b.Map = nil, nil
	}
	return reflect.DeepEqual(a, b)
}

// wantRight is the requirement, one part of it a line.
func wantRight(e api.Entry) bool {
	between := func(n, least, most int) bool { return least <= n && n <= most }
	device := 0
	if is(devices, e.Kind) {
		device = 2097151
	}
	for _, ok := range []bool{
		e.Name != "", e.Name == strings.TrimSuffix(e.Name, "/"),
		len(e.Name) <= 120, len(e.Link) <= 120, len(e.User) <= 32, len(e.Group) <= 32,
		!strings.Contains(e.Name+e.Link+e.User+e.Group, "\x00"),
		between(e.Mode, 0, 4095),
		between(e.Uid, 0, 1099511627775), between(e.Gid, 0, 1099511627775),
		between(e.Time.Sec, -1099511627776, 1099511627776), between(e.Time.Nano, 0, 999999999),
		is(links, e.Kind) == (e.Link != ""),
		between(e.Major, 0, device), between(e.Minor, 0, device),
		is(allKinds, e.Kind),
	} {
		if !ok {
			return false
		}
	}
	if e.Kind != '0' {
		return e.Size == 0 && e.Data == "" && len(e.Map) == 0
	}
	if !between(e.Size, 0, 4000) {
		return false
	}
	sum := 0
	for _, p := range e.Map {
		sum += p.Size
	}
	if len(e.Map) == 0 && e.Size == len(e.Data) {
		return true
	}
	return hole.Right(e.Map, e.Size) && sum == len(e.Data)
}

func TestSparse(t *testing.T) {
	for _, c := range []struct {
		e    api.Entry
		want bool
	}{
		{api.Entry{}, false},
		{file(3, "abc"), false},
		{file(4, "abc"), true},
		{file(2, "abc"), true},
		{file(0, "abc"), true},
		{file(1, ""), true},
		{file(-1, ""), true},
		{file(0, ""), false},
		{file(3, "abc", 0, 3), true},
		{file(5, "abc", 1, 3), true},
		{file(0, "", 0, 0), true},
		{api.Entry{Map: []api.Piece{}}, false},
		{api.Entry{Kind: api.Dir, Size: 1}, true},
		{api.Entry{Kind: api.Dir, Data: "a"}, true},
		{api.Entry{Kind: api.Dir, Data: "a", Size: 1}, false},
		{api.Entry{Kind: 'Z', Map: []api.Piece{{}}}, true},
	} {
		if got := member.Sparse(c.e); got != c.want {
			t.Errorf("Sparse(%+v) = %v", c.e, got)
		}
	}
}

// change is one to a member, after which those of some kinds are still valid.
type change struct {
	what  string
	make  func(e *api.Entry)
	valid string
}

// textChanges are those of a text, which may be set for kinds.
func textChanges(name string, of func(e *api.Entry) *string, most int, kinds string) []change {
	set := func(s string) func(e *api.Entry) {
		return func(e *api.Entry) { *of(e) = s }
	}
	long := strings.Repeat("x", most)
	return []change{
		{name + " of a byte", set("x"), kinds},
		{name + " of the greatest length", set(long), kinds},
		{name + " longer by a byte", set(long + "x"), ""},
		{name + " much longer", set(long + long), ""},
		{name + " with a zero byte", set("x\x00x"), ""},
		{name + " with a zero byte ahead", set("\x00x"), ""},
		{name + " with a zero byte behind", set("x\x00"), ""},
		{name + " of a zero byte", set("\x00"), ""},
		{name + " of other bytes", set("\xff\x01 .."), kinds},
		{name + " of the greatest length, with a zero byte", set(long[1:] + "\x00"), ""},
	}
}

// numberChanges are those of a number that may be set for kinds, and be 0 for all.
func numberChanges(name string, of func(e *api.Entry) *int, least, most int, kinds string) []change {
	var l []change
	add := func(valid string, numbers ...int) {
		for _, n := range numbers {
			l = append(l, change{fmt.Sprint(name, " ", n), func(e *api.Entry) { *of(e) = n }, valid})
		}
	}
	add(allKinds, 0)
	add(kinds, 1, most-1, most)
	if least < 0 {
		add(kinds, -1, least+1, least)
	}
	add("", most+1, least-1, math.MaxInt, math.MinInt)
	return l
}

func changes() []change {
	l := []change{
		{"nothing", func(e *api.Entry) {}, allKinds},
		{"no name", func(e *api.Entry) { e.Name = "" }, ""},
		{"a slash", func(e *api.Entry) { e.Name = "/" }, ""},
		{"a slash behind the name", func(e *api.Entry) { e.Name = "a/" }, ""},
		{"slashes behind the name", func(e *api.Entry) { e.Name = "a//" }, ""},
		{"a slash ahead of the name", func(e *api.Entry) { e.Name = "/a" }, allKinds},
		{"a name that is not clean", func(e *api.Entry) { e.Name = "a//../../." }, allKinds},
		{"no link", func(e *api.Entry) { e.Link = "" }, "03456"},
		{"a link that ends with a slash", func(e *api.Entry) { e.Link = "x/" }, links},
		{"no user and no group", func(e *api.Entry) { e.User, e.Group = "", "" }, allKinds},
		{"no map", func(e *api.Entry) { e.Map = []api.Piece{} }, allKinds},
		{"a byte of data", func(e *api.Entry) { e.Data, e.Size = "a", 1 }, "0"},
		{"data without a size", func(e *api.Entry) { e.Data, e.Size = "a", 0 }, ""},
		{"a size without data", func(e *api.Entry) { e.Data, e.Size = "", 1 }, "0"},
		{"an empty piece", func(e *api.Entry) { e.Map = []api.Piece{{}} }, ""},
		{"a piece", func(e *api.Entry) { e.Data, e.Size, e.Map = "a", 1, []api.Piece{{At: 0, Size: 1}} }, "0"},
	}
	l = append(l, textChanges("name", func(e *api.Entry) *string { return &e.Name }, 120, allKinds)...)
	l = append(l, textChanges("link", func(e *api.Entry) *string { return &e.Link }, 120, links)...)
	l = append(l, textChanges("user", func(e *api.Entry) *string { return &e.User }, 32, allKinds)...)
	l = append(l, textChanges("group", func(e *api.Entry) *string { return &e.Group }, 32, allKinds)...)
	l = append(l, numberChanges("mode", func(e *api.Entry) *int { return &e.Mode }, 0, 4095, allKinds)...)
	l = append(l, numberChanges("uid", func(e *api.Entry) *int { return &e.Uid }, 0, 1<<40-1, allKinds)...)
	l = append(l, numberChanges("gid", func(e *api.Entry) *int { return &e.Gid }, 0, 1<<40-1, allKinds)...)
	l = append(l, numberChanges("second", func(e *api.Entry) *int { return &e.Time.Sec }, -1<<40, 1<<40, allKinds)...)
	l = append(l, numberChanges("nano", func(e *api.Entry) *int { return &e.Time.Nano }, 0, 999999999, allKinds)...)
	l = append(l, numberChanges("major", func(e *api.Entry) *int { return &e.Major }, 0, 1<<21-1, devices)...)
	l = append(l, numberChanges("minor", func(e *api.Entry) *int { return &e.Minor }, 0, 1<<21-1, devices)...)
	return l
}

func TestRight(t *testing.T) {
	for _, c := range changes() {
		for _, kind := range []byte(allKinds) {
			for _, e := range []api.Entry{least(kind), full(kind)} {
				c.make(&e)
				if got, want := member.Right(e), is(c.valid, kind); got != want || got != wantRight(e) {
					t.Errorf("%s: Right(%+v) = %v", c.what, e, got)
				}
			}
		}
	}
}

func TestRightKinds(t *testing.T) {
	for kind := range 256 {
		e := least(byte(kind))
		if got := member.Right(e); got != is(allKinds, e.Kind) {
			t.Errorf("Right of the kind %q = %v", e.Kind, got)
		}
		e.Link = "b"
		if got := member.Right(e); got != is(links, e.Kind) {
			t.Errorf("Right of the kind %q with a link = %v", e.Kind, got)
		}
	}
	if member.Right(api.Entry{}) {
		t.Error("a member of no kind is valid")
	}
}

func TestRightData(t *testing.T) {
	big := strings.Repeat("b", 4001)
	for _, c := range []struct {
		e    api.Entry
		want bool
	}{
		{file(0, ""), true},
		{file(4000, big[1:]), true},
		{file(4001, big), false},
		{file(-1, ""), false},
		{file(math.MinInt, ""), false},
		{file(math.MaxInt, ""), false},
		{file(4000, ""), true},
		{file(4001, ""), false},
		{file(5, "abc"), false},
		{file(2, "abc"), false},
		{file(0, "a"), false},
		{file(5, "abc", 0, 3), true},
		{file(5, "abc", 2, 3), true},
		{file(5, "abc", 3, 3), false},
		{file(3, "abc", 0, 3), true},
		{file(4, "abc", 0, 2, 3, 1), true},
		{file(4, "abcd", 0, 2, 3, 1), false},
		{file(4, "ab", 0, 2, 3, 1), false},
		{file(4, "abcd", 0, 2, 2, 2), false},
		{file(5, "abcd", 3, 2, 0, 2), false},
		{file(5, "ab", 0, 2, 3, 0), false},
		{file(5, "", 0, 0), false},
		{file(5, "a", -1, 1), false},
		{file(5, "", 1, -1), false},
		{file(4000, big[1:], 0, 4000), true},
		{file(4001, big, 0, 4001), false},
		{file(4001, "a", 0, 1), false},
		{file(5, "", math.MaxInt, math.MaxInt), false},
		{apart(20), true},
		{apart(21), false},
	} {
		if got := member.Right(c.e); got != c.want || got != wantRight(c.e) {
			t.Errorf("Right(%+v) = %v", c.e, got)
		}
		for _, kind := range []byte(noData) {
			e := least(kind)
			e.Size, e.Data, e.Map = c.e.Size, c.e.Data, c.e.Map
			if want := e.Size == 0 && e.Data == "" && e.Map == nil; member.Right(e) != want {
				t.Errorf("Right(%+v) = %v", e, !want)
			}
		}
	}
}

// pick is one of l.
func pick[T any](r *rand.Rand, l ...T) T {
	return l[r.Intn(len(l))]
}

// nameOf is a name of n bytes, with slashes inside.
func nameOf(r *rand.Rand, n int) string {
	b := []byte(strings.Repeat(pick(r, "n", "\xe9", "z"), n))
	for range r.Intn(4) {
		if n > 2 {
			b[r.Intn(n-1)] = '/'
		}
	}
	return string(b)
}

func length(r *rand.Rand) int {
	return pick(r, 1, 2, 1+r.Intn(98), 98, 99, 100, 101, 102, 103+r.Intn(16), 119, 120)
}

// drawnFile gives e data, with holes where sparse.
func drawnFile(r *rand.Rand, e *api.Entry, sparse bool) {
	size := pick(r, 0, 1, r.Intn(100), 511, 512, 513, r.Intn(4001), 4000)
	b := make([]byte, size)
	for i := range b {
		b[i] = byte('a' + r.Intn(26))
	}
	e.Data, e.Size = string(b), size
	if !sparse {
		return
	}
	for range pick(r, 0, 1, 4, 5, 20, r.Intn(21)) {
		at := r.Intn(9)
		if n := len(e.Map); n > 0 {
			at += e.Map[n-1].At + e.Map[n-1].Size + 1
		}
		if at >= size {
			break
		}
		e.Map = append(e.Map, api.Piece{At: at, Size: 1 + r.Intn(min(size-at, 1+size/10))})
	}
	e.Data = e.Data[:hole.Size(e.Map)]
}

// drawn is a valid member, at and inside its bounds.
func drawn(r *rand.Rand) api.Entry {
	const most = 1<<40 - 1
	e := api.Entry{
		Name: nameOf(r, length(r)), Kind: pick(r, []byte("000"+allKinds)...), Mode: r.Intn(4096),
		Uid: pick(r, 0, 7, 1<<21-1, 1<<21, r.Intn(most), most), Gid: pick(r, 0, 8, 1<<21-1, 1<<21, r.Intn(most), most),
		User: strings.Repeat("u", pick(r, 0, 1, 32)), Group: strings.Repeat("g", pick(r, 0, 2, 32)),
		Time: api.Time{Sec: pick(r, 0, 1, r.Intn(1<<33), 1<<33-1, 1<<33, -1, -r.Intn(1<<40), 1<<40, -1<<40), Nano: pick(r, 0, 0, 0, 1, 500000000, 999999999)},
	}
	switch {
	case e.Kind == '0':
		drawnFile(r, &e, r.Intn(2) == 0)
	case is(links, e.Kind):
		e.Link = nameOf(r, length(r))
	case is(devices, e.Kind):
		e.Major, e.Minor = pick(r, 0, 9, 1<<21-1), pick(r, 0, r.Intn(1<<21), 1<<21-1)
	}
	return e
}

// plainer leaves out, most of the time, what not every dialect has.
func plainer(r *rand.Rand, e api.Entry) api.Entry {
	if r.Intn(4) > 0 {
		e.User, e.Group = "", ""
	}
	if r.Intn(4) > 0 {
		e.Uid, e.Gid = e.Uid%(1<<21), e.Gid%(1<<21)
	}
	if r.Intn(4) > 0 {
		e.Time = api.Time{Sec: max(e.Time.Sec, 0) % (1 << 33)}
	}
	if r.Intn(4) > 0 && e.Kind == '0' {
		e.Map, e.Size = nil, len(e.Data)
	}
	return e
}

// TestRightDrawn changes drawn members once or twice.
func TestRightDrawn(t *testing.T) {
	r := rand.New(rand.NewSource(20))
	l := changes()
	for range 20000 {
		e := drawn(r)
		if !member.Right(e) || !wantRight(e) {
			t.Fatalf("%+v is not valid", e)
		}
		for range 1 + r.Intn(2) {
			pick(r, l...).make(&e)
		}
		if got := member.Right(e); got != wantRight(e) {
			t.Fatalf("Right(%+v) = %v", e, got)
		}
	}
}
