package tree_test

import (
	"fmt"
	"math"
	"slices"
	"strings"
	"testing"

	"revetment/api"
	"revetment/plain"
	"revetment/tree"
)

func repeat(s string, n int) string { return strings.Repeat(s, n) }

func dir() api.Node { return api.Node{Kind: api.Dir, Mode: 0o755} }

func file(data string) api.Node { return api.Node{Kind: api.File, Mode: 0o644, Data: data} }

func soft(link string) api.Node { return api.Node{Kind: api.Soft, Mode: 0o777, Link: link} }

func fifo() api.Node { return api.Node{Kind: api.Fifo, Mode: 0o600} }

func makes(name string, n api.Node) api.Act { return api.Act{What: api.Make, Name: name, Node: n} }

func again(name, to string) api.Act { return api.Act{What: api.Again, Name: name, To: to} }

func moves(name, to string) api.Act { return api.Act{What: api.Move, Name: name, To: to} }

func removes(name string) api.Act { return api.Act{What: api.Remove, Name: name} }

func puts(name, data string) api.Act { return api.Act{What: api.Put, Name: name, To: data} }

// grown is a tree in which all of this was done.
func grown(t *testing.T, acts ...api.Act) *tree.Tree {
	t.Helper()
	var all tree.Tree
	does(t, &all, acts...)
	return &all
}

// does checks that there is no error.
func does(t *testing.T, all *tree.Tree, acts ...api.Act) {
	t.Helper()
	for _, a := range acts {
		if err := all.Do(a); err != nil {
			t.Fatalf("Do(%+.300v): %v", a, err)
		}
	}
}

// refuses checks the error, and that nothing changes.
func refuses(t *testing.T, all *tree.Tree, want api.Errno, a api.Act) {
	t.Helper()
	before := seen(all)
	errno, place := plain.Place(all.Do(a))
	if errno != want || place != -1 {
		t.Errorf("Do(%+.300v): error %d at %d, want %d", a, errno, place, want)
	}
	if after := seen(all); after != before {
		t.Errorf("Do(%+.300v) changes what it refuses: %s, was %s", a, after, before)
	}
}

// seen is all that a tree tells of its names.
func seen(all *tree.Tree) string {
	var b strings.Builder
	for _, name := range all.Names() {
		n, err := all.Get(name)
		fmt.Fprintf(&b, "%q %+v %v %d", name, n, err, all.Links(name))
		for _, other := range all.Names() {
			if all.Alike(name, other) {
				fmt.Fprintf(&b, " %q", other)
			}
		}
		b.WriteString("\n")
	}
	return b.String()
}

func sameNames(t *testing.T, all *tree.Tree, want ...string) {
	t.Helper()
	if got := all.Names(); !slices.Equal(got, want) {
		t.Errorf("Names() = %q, want %q", got, want)
	}
}

func sameGet(t *testing.T, all *tree.Tree, name string, want api.Node, wantErr api.Errno) {
	t.Helper()
	got, err := all.Get(name)
	errno, place := plain.Place(err)
	if got != want || errno != wantErr || place != -1 {
		t.Errorf("Get(%q) = %+v, error %d at %d, want %+v, %d", name, got, errno, place, want, wantErr)
	}
}

func has(t *testing.T, all *tree.Tree, name string, want api.Node) {
	t.Helper()
	sameGet(t, all, name, want, api.OK)
}

func hasNot(t *testing.T, all *tree.Tree, name string) {
	t.Helper()
	sameGet(t, all, name, api.Node{}, api.ErrMissing)
}

func sameAlike(t *testing.T, all *tree.Tree, a, b string, want bool) {
	t.Helper()
	if all.Alike(a, b) != want || all.Alike(b, a) != want {
		t.Errorf("Alike(%q, %q) = %t, %t the other way round, want %t", a, b, all.Alike(a, b), all.Alike(b, a), want)
	}
}

func sameLinks(t *testing.T, all *tree.Tree, name string, want int) {
	t.Helper()
	if got := all.Links(name); got != want {
		t.Errorf("Links(%q) = %d, want %d", name, got, want)
	}
}

func sameSame(t *testing.T, what string, a, b *tree.Tree, want bool) {
	t.Helper()
	if a.Same(b) != want || b.Same(a) != want {
		t.Errorf("%s: Same = %t, %t the other way round, want %t", what, a.Same(b), b.Same(a), want)
	}
}

var kinds = []byte{api.File, api.Soft, api.Char, api.Blk, api.Dir, api.Fifo}

// ofKind is a valid file of a kind.
func ofKind(kind byte) api.Node {
	n := api.Node{Kind: kind}
	if kind == api.Soft {
		n.Link = "to"
	}
	return n
}

func sameRight(t *testing.T, n api.Node, want bool) {
	t.Helper()
	if got := tree.Right(n); got != want {
		t.Errorf("Right(%+.300v) = %t", n, got)
	}
}

func TestRightKind(t *testing.T) {
	for kind := range 256 {
		n := api.Node{Kind: byte(kind)}
		sameRight(t, n, strings.IndexByte("03456", byte(kind)) >= 0)
		n.Link = "to"
		sameRight(t, n, kind == '2')
	}
}

func TestRightNumbers(t *testing.T) {
	for _, kind := range kinds {
		device := 0
		if kind == '3' || kind == '4' {
			device = 1<<21 - 1
		}
		for _, c := range []struct {
			most  int
			field func(n *api.Node) *int
		}{
			{0o7777, func(n *api.Node) *int { return &n.Mode }},
			{1<<40 - 1, func(n *api.Node) *int { return &n.Uid }},
			{1<<40 - 1, func(n *api.Node) *int { return &n.Gid }},
			{device, func(n *api.Node) *int { return &n.Major }},
			{device, func(n *api.Node) *int { return &n.Minor }},
			{999_999_999, func(n *api.Node) *int { return &n.Time.Nano }},
		} {
			for _, v := range []int{math.MinInt, -1, 0, 1, 1 << 20, c.most - 1, c.most, c.most + 1, 1 << 41, math.MaxInt} {
				n := ofKind(kind)
				*c.field(&n) = v
				sameRight(t, n, v >= 0 && v <= c.most)
			}
		}
		for _, sec := range []int{math.MinInt, -1<<40 - 1, -1 << 40, -1, 0, 1 << 33, 1 << 40, 1<<40 + 1, math.MaxInt} {
			n := ofKind(kind)
			n.Time.Sec = sec
			sameRight(t, n, sec >= -1<<40 && sec <= 1<<40)
		}
	}
}

func TestRightTexts(t *testing.T) {
	for _, c := range []struct {
		text     string
		ofSoft   bool
		ofFile   bool
		ofOthers bool
	}{
		{"", false, true, true},
		{"a", true, true, false},
		{"/", true, true, false},
		{"..", true, true, false},
		{"a/../../b//", true, true, false},
		{"\xff \n", true, true, false},
		{"\x00", false, true, false},
		{"a\x00", false, true, false},
		{"\x00a", false, true, false},
		{repeat("n", 120), true, true, false},
		{repeat("n", 121), false, true, false},
		{repeat("\u00e9", 60), true, true, false},
		{repeat("\u00e9", 61), false, true, false},
		{repeat("/", 120), true, true, false},
		{repeat("d", 4000), false, true, false},
		{repeat("d", 4001), false, false, false},
		{repeat("\x00", 4000), false, true, false},
		{repeat("\x00", 4001), false, false, false},
		{repeat("d", 100000), false, false, false},
	} {
		sameRight(t, api.Node{Kind: api.Soft, Link: c.text}, c.ofSoft)
		sameRight(t, api.Node{Kind: api.File, Data: c.text}, c.ofFile)
		for _, kind := range kinds {
			n := ofKind(kind)
			if kind != api.Soft {
				n.Link = c.text
				sameRight(t, n, c.text == "")
			}
			if kind != api.File {
				n := ofKind(kind)
				n.Data = c.text
				sameRight(t, n, c.text == "")
			}
			if kind != api.File && kind != api.Soft {
				n := ofKind(kind)
				n.Data, n.Link = c.text, c.text
				sameRight(t, n, c.ofOthers)
			}
		}
	}
}

// TestNothing: the zero value, and a tree that is not there, have no names.
func TestNothing(t *testing.T) {
	for _, all := range []*tree.Tree{{}, nil} {
		sameNames(t, all)
		for _, name := range []string{"", "a", "/", "."} {
			hasNot(t, all, name)
			sameAlike(t, all, name, name, false)
			sameLinks(t, all, name, 0)
		}
		sameSame(t, "nothing", all, &tree.Tree{}, true)
		sameSame(t, "nothing", all, nil, true)
		sameSame(t, "nothing", all, all.Copy(), true)
		sameSame(t, "a name", all, grown(t, makes("a", dir())), false)
		own := all.Copy()
		does(t, own, makes("a", dir()))
		sameNames(t, own, "a")
		sameNames(t, all)
	}
	if err := (*tree.Tree)(nil).Do(makes("a", dir())); api.Tell(err) != api.ErrArg {
		t.Errorf("Do without a tree: %v", err)
	}
}

func TestNames(t *testing.T) {
	// A slash is no byte among others: what lies in `a` comes ahead of `a-`.
	want := []string{"\x01", "...", "A", "a", "a/a", "a/a/a", "a/a.a", "a/b", "a\x01", "a-", "a-/b", "a.", "a0", "ab", "b", "\u00e9", "\xff"}
	dirs := []string{"a-", "a", "a/a"}
	var all tree.Tree
	for _, name := range dirs {
		does(t, &all, makes(name, dir()))
	}
	for _, name := range slices.Backward(want) {
		if !slices.Contains(dirs, name) {
			does(t, &all, makes(name, fifo()))
		}
	}
	sameNames(t, &all, want...)
	for i := range all.Names() {
		all.Names()[i] = "changed"
	}
	sameNames(t, &all, want...)
}

func TestGet(t *testing.T) {
	whole := api.Node{Kind: api.File, Mode: 0o7777, Uid: 1<<40 - 1, Gid: 5, Time: api.Time{Sec: -1 << 40, Nano: 999_999_999}, Data: repeat("\x00d", 2000)}
	device := api.Node{Kind: api.Blk, Mode: 0o1000, Major: 1<<21 - 1, Minor: 3}
	link := api.Node{Kind: api.Soft, Link: repeat("../", 40), Gid: 1<<40 - 1}
	all := grown(t, makes("a", dir()), makes("a/b", whole), makes("b", device), makes("c", link))
	has(t, all, "a", dir())
	has(t, all, "a/b", whole)
	has(t, all, "b", device)
	has(t, all, "c", link)
	for _, name := range []string{"", "/", ".", "/a", "a/", "./a", "a/.", "a//b", "a/../b", "a/b/c", "c/b", "d", "A", "a\x00", repeat("a", 1000)} {
		hasNot(t, all, name)
		sameAlike(t, all, name, name, false)
		sameAlike(t, all, name, "a", false)
		sameAlike(t, all, name, "", false)
		sameLinks(t, all, name, 0)
	}
}

func TestAlike(t *testing.T) {
	all := grown(t, makes("d", dir()), makes("a", file("same")), makes("b", file("same")), again("a", "d/a"), again("d/a", "c"))
	for _, name := range all.Names() {
		sameAlike(t, all, name, name, true)
	}
	sameAlike(t, all, "a", "d/a", true)
	sameAlike(t, all, "a", "c", true)
	sameAlike(t, all, "d/a", "c", true)
	// Equal files are two.
	sameAlike(t, all, "a", "b", false)
	sameAlike(t, all, "a", "d", false)
	sameAlike(t, all, "c", "none", false)
	for name, want := range map[string]int{"a": 3, "c": 3, "d/a": 3, "b": 1, "d": 1, "d/b": 0} {
		sameLinks(t, all, name, want)
	}
	does(t, all, removes("a"))
	sameAlike(t, all, "a", "c", false)
	sameAlike(t, all, "d/a", "c", true)
	sameLinks(t, all, "a", 0)
	sameLinks(t, all, "c", 2)
	// A new file of the name is another one.
	does(t, all, makes("a", file("same")))
	sameAlike(t, all, "a", "c", false)
	sameLinks(t, all, "a", 1)
}

func TestCopy(t *testing.T) {
	all := grown(t, makes("d", dir()), makes("a", file("one")), again("a", "d/a"), makes("d/b", soft("a")))
	before := seen(all)
	own := all.Copy()
	if got := seen(own); got != before {
		t.Fatalf("the copy is %s, want %s", got, before)
	}
	sameSame(t, "a copy", all, own, true)
	for _, a := range []api.Act{
		puts("a", "two"),
		{What: api.Chmod, Name: "d", N: 0o700},
		{What: api.Chown, Name: "d/b", Node: api.Node{Uid: 1}},
		{What: api.Touch, Name: "d/a", Node: api.Node{Time: api.Time{Sec: 1}}},
		removes("d/b"),
		again("a", "b"),
		makes("d/c", fifo()),
		moves("d", "e"),
	} {
		does(t, own, a)
		if got := seen(all); got != before {
			t.Fatalf("Do(%+v) of the copy changes the tree: %s, was %s", a, got, before)
		}
		sameSame(t, "a copy that was changed", all, own, false)
	}
	after := seen(own)
	does(t, all, puts("d/a", "three"), removes("d/b"))
	if got := seen(own); got != after {
		t.Errorf("the copy changes with the tree: %s, was %s", got, after)
	}
}

// TestSame changes one thing of two trees that are the same.
func TestSame(t *testing.T) {
	grow := func() *tree.Tree {
		return grown(t, makes("d", dir()), makes("d/a", file("x")), again("d/a", "b"), makes("c", soft("b")), makes("e", api.Node{Kind: api.Char, Major: 1, Minor: 2}))
	}
	// It hangs neither on the order in which it grew, nor on what is no more.
	other := grown(t, makes("e", api.Node{Kind: api.Char, Major: 1, Minor: 2}), makes("c", soft("b")), makes("b", file("y")), makes("f", dir()), again("b", "f/a"), puts("b", "x"), moves("f", "d"), makes("g", fifo()), removes("g"))
	sameSame(t, "two that grew apart", grow(), other, true)
	all := grow()
	sameSame(t, "itself", all, all, true)
	for _, n := range []api.Node{
		{Kind: api.Blk, Major: 1, Minor: 2},
		{Kind: api.Char, Major: 2, Minor: 2},
		{Kind: api.Char, Major: 1, Minor: 1},
		{Kind: api.Char, Major: 1, Minor: 2, Mode: 1},
		{Kind: api.Char, Major: 1, Minor: 2, Uid: 1},
		{Kind: api.Char, Major: 1, Minor: 2, Gid: 1},
		{Kind: api.Char, Major: 1, Minor: 2, Time: api.Time{Sec: 1}},
		{Kind: api.Char, Major: 1, Minor: 2, Time: api.Time{Nano: 1}},
	} {
		changed := grow()
		does(t, changed, removes("e"), makes("e", n))
		sameSame(t, fmt.Sprintf("another file %+v", n), all, changed, false)
	}
	for what, acts := range map[string][]api.Act{
		"a name more":                 {makes("f", fifo())},
		"a name less":                 {removes("e")},
		"another name":                {moves("e", "f")},
		"another name in a directory": {moves("d", "f")},
		"other bytes":                 {puts("b", "y")},
		"as many bytes":               {puts("b", "xx")},
		"another link":                {removes("c"), makes("c", soft("d"))},
	} {
		changed := grow()
		does(t, changed, acts...)
		sameSame(t, what, all, changed, false)
	}
}

// TestSamePairs: the names and the files are the same, but not the pairs.
func TestSamePairs(t *testing.T) {
	four := func(acts ...api.Act) *tree.Tree {
		all := grown(t, acts...)
		for _, name := range []string{"a", "b", "c", "d"} {
			all.Do(makes(name, file("x")))
		}
		return all
	}
	trees := []*tree.Tree{
		four(),
		four(makes("a", file("x")), again("a", "b")),
		four(makes("a", file("x")), again("a", "c")),
		four(makes("c", file("x")), again("c", "d")),
		four(makes("a", file("x")), again("a", "b"), makes("c", file("x")), again("c", "d")),
		four(makes("a", file("x")), again("a", "c"), makes("b", file("x")), again("b", "d")),
		four(makes("a", file("x")), again("a", "d"), makes("b", file("x")), again("b", "c")),
		four(makes("a", file("x")), again("a", "b"), again("a", "c")),
		four(makes("b", file("x")), again("b", "c"), again("b", "d")),
		four(makes("a", file("x")), again("a", "b"), again("a", "c"), again("a", "d")),
	}
	for i, a := range trees {
		for j, b := range trees {
			sameSame(t, fmt.Sprint(i, " and ", j), a, b, i == j)
		}
	}
}

func Example() {
	var t tree.Tree
	fmt.Println(t.Do(api.Act{What: api.Make, Name: "a", Node: api.Node{Kind: api.Dir, Mode: 0o755}}))
	fmt.Println(t.Do(api.Act{What: api.Make, Name: "a/b", Node: api.Node{Kind: api.File, Data: "bytes"}}))
	fmt.Println(t.Do(api.Act{What: api.Make, Name: "c/b", Node: api.Node{Kind: api.File}}))
	fmt.Println(t.Names())
	// Output:
	// <nil>
	// <nil>
	// revetment: error 07
	// [a a/b]
}
