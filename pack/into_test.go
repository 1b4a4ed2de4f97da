package pack_test

import (
	"fmt"
	"math"
	"reflect"
	"slices"
	"strings"
	"testing"

	"revetment/api"
	"revetment/pack"
	"revetment/plain"
	"revetment/tree"
)

// ofKind is a valid member of a kind.
func ofKind(name string, kind byte) api.Entry {
	e := api.Entry{Name: name, Kind: kind, Mode: 0o640}
	if kind == api.Hard || kind == api.Soft {
		e.Link = "f"
	}
	return e
}

func hard(name, link string) api.Entry { return api.Entry{Name: name, Kind: api.Hard, Link: link} }

func sparse(name, data string, size int, l ...api.Piece) api.Entry {
	return api.Entry{Name: name, Kind: api.File, Size: size, Data: data, Map: l}
}

var kinds = []byte{api.File, api.Hard, api.Soft, api.Char, api.Blk, api.Dir, api.Fifo}

// extracts checks that a member makes the tree what other acts do.
func extracts(t *testing.T, all *tree.Tree, e api.Entry, acts ...api.Act) {
	t.Helper()
	before, want := seen(all), grown(t, acts...)
	errno, place := plain.Place(pack.Into(all, e))
	if errno != api.OK || place != -1 || seen(all) != seen(want) || !all.Same(want) {
		t.Errorf("Into(%+.300v) of\n%s: error %d at %d, makes\n%swant\n%s", e, before, errno, place, seen(all), seen(want))
	}
}

// refuses checks the error, and that nothing changes.
func refuses(t *testing.T, all *tree.Tree, want api.Errno, e api.Entry) {
	t.Helper()
	before := seen(all)
	errno, place := plain.Place(pack.Into(all, e))
	if errno != want || place != -1 {
		t.Errorf("Into(%+.300v) of\n%s: error %d at %d, want %d", e, before, errno, place, want)
	}
	if after := seen(all); after != before {
		t.Errorf("Into(%+.300v) changes what it refuses: %s, was %s", e, after, before)
	}
}

func TestInto(t *testing.T) {
	at := api.Time{Sec: -3, Nano: 4}
	for _, c := range []struct {
		e api.Entry
		n api.Node
	}{
		{api.Entry{Name: "a", Kind: '0', Mode: 0o640, Uid: 1, Gid: 2, Time: at, Size: 5, Data: "bytes"}, api.Node{Kind: '0', Mode: 0o640, Uid: 1, Gid: 2, Time: at, Data: "bytes"}},
		{api.Entry{Name: "a", Kind: '0'}, api.Node{Kind: '0'}},
		{api.Entry{Name: "a", Kind: '0', Size: 4000, Data: repeat("d", 4000)}, api.Node{Kind: '0', Data: repeat("d", 4000)}},
		{api.Entry{Name: "a", Kind: '2', Mode: 0o7777, Uid: 1<<40 - 1, Gid: 2, Time: at, Link: "../../b//"}, api.Node{Kind: '2', Mode: 0o7777, Uid: 1<<40 - 1, Gid: 2, Time: at, Link: "../../b//"}},
		{api.Entry{Name: "a", Kind: '3', Mode: 1, Gid: 1<<40 - 1, Major: 3, Minor: 1<<21 - 1}, api.Node{Kind: '3', Mode: 1, Gid: 1<<40 - 1, Major: 3, Minor: 1<<21 - 1}},
		{api.Entry{Name: "a", Kind: '4', Mode: 1, Time: at, Major: 1<<21 - 1}, api.Node{Kind: '4', Mode: 1, Time: at, Major: 1<<21 - 1}},
		{api.Entry{Name: "a", Kind: '5', Mode: 0o1777, Uid: 1, Gid: 2, Time: at}, api.Node{Kind: '5', Mode: 0o1777, Uid: 1, Gid: 2, Time: at}},
		{api.Entry{Name: "a", Kind: '6', Mode: 0o600, Uid: 1, Gid: 2, Time: at}, api.Node{Kind: '6', Mode: 0o600, Uid: 1, Gid: 2, Time: at}},
		{sparse("a", "", 3), api.Node{Kind: '0', Data: zeros(3)}},
		{sparse("a", "", 4000), api.Node{Kind: '0', Data: zeros(4000)}},
		{sparse("a", "xy", 5, api.Piece{At: 0, Size: 1}, api.Piece{At: 3, Size: 1}), api.Node{Kind: '0', Data: "x\x00\x00y\x00"}},
		{sparse("a", "xyz", 3, api.Piece{At: 0, Size: 3}), api.Node{Kind: '0', Data: "xyz"}},
		{sparse("a", "z", 4000, api.Piece{At: 3999, Size: 1}), api.Node{Kind: '0', Data: zeros(3999) + "z"}},
	} {
		extracts(t, &tree.Tree{}, c.e, makes("a", c.n))
		// The names of users are no part of a tree.
		c.e.User, c.e.Group = "root", "wheel"
		extracts(t, &tree.Tree{}, c.e, makes("a", c.n))
		for _, name := range []string{"d/e/a", "/d/./e//a", "d/e/f/../a"} {
			c.e.Name = name
			extracts(t, &tree.Tree{}, c.e, makes("d", dir()), makes("d/e", dir()), makes("d/e/a", c.n))
		}
		// It takes the place of all that is no directory.
		for _, kind := range []byte{api.File, api.Soft, api.Char, api.Blk, api.Fifo} {
			old := api.Node{Kind: kind, Mode: 0o111, Uid: 9}
			if kind == api.Soft {
				old.Link = "g"
			}
			all := grown(t, makes("d", fifo()), makes("a", old), again("a", "b"))
			c.e.Name = "a"
			extracts(t, all, c.e, makes("d", fifo()), makes("a", c.n), makes("b", old))
		}
	}
}

// TestIntoExample: the directory of a file is created, too.
func TestIntoExample(t *testing.T) {
	extracts(t, &tree.Tree{}, ofKind("a/b", '0'), makes("a", api.Node{Kind: '5', Mode: 0o755}), makes("a/b", api.Node{Kind: '0', Mode: 0o640}))
}

// TestIntoDir: a directory that is there keeps what lies in it.
func TestIntoDir(t *testing.T) {
	e := api.Entry{Name: "d", Kind: '5', Mode: 0o700, Uid: 1, Gid: 2, Time: api.Time{Sec: 3, Nano: 4}, User: "root"}
	n := api.Node{Kind: '5', Mode: 0o700, Uid: 1, Gid: 2, Time: api.Time{Sec: 3, Nano: 4}}
	for _, name := range []string{"d", "/d", "./d", "d/.", "d/e/..", "none/../d"} {
		e.Name = name
		extracts(t, grown(t, makes("d", dir()), makes("d/e", dir()), makes("d/e/f", fifo())), e,
			makes("d", n), makes("d/e", dir()), makes("d/e/f", fifo()))
	}
	e.Name = "d/e"
	extracts(t, grown(t, makes("d", dir()), makes("d/e", dir()), makes("d/e/f", fifo())), e,
		makes("d", dir()), makes("d/e", n), makes("d/e/f", fifo()))
	for _, kind := range kinds {
		if kind != api.Dir {
			all := grown(t, makes("f", fifo()), makes("d", dir()), makes("d/e", dir()), makes("d/e/f", fifo()))
			refuses(t, all, api.ErrState, ofKind("d", kind))
			refuses(t, all, api.ErrState, ofKind("d/e", kind))
			refuses(t, all, api.ErrState, ofKind("/d/e/f/..", kind))
		}
	}
}

// TestIntoTop: a directory is also the one in which all names lie.
func TestIntoTop(t *testing.T) {
	for _, name := range []string{".", "a/..", "/.", "./.", "a/./b/../.."} {
		for _, kind := range kinds {
			all := grown(t, makes("f", fifo()))
			if kind == api.Dir {
				extracts(t, all, ofKind(name, kind), makes("f", fifo()))
				extracts(t, &tree.Tree{}, ofKind(name, kind))
			} else {
				refuses(t, all, api.ErrName, ofKind(name, kind))
			}
		}
	}
}

// wrong are members that are not valid.
var wrong = []api.Entry{
	{},
	{Name: "", Kind: '5'},
	{Name: "a", Kind: 0},
	{Name: "a", Kind: '7'},
	{Name: "a", Kind: 'S'},
	{Name: "a/", Kind: '5'},
	{Name: "/", Kind: '5'},
	{Name: "a\x00", Kind: '5'},
	{Name: repeat("n", 121), Kind: '5'},
	{Name: "a", Kind: '1'},
	{Name: "a", Kind: '2'},
	{Name: "a", Kind: '1', Link: repeat("l", 121)},
	{Name: "a", Kind: '0', Link: "f"},
	{Name: "a", Kind: '5', Mode: 0o10000},
	{Name: "a", Kind: '5', Mode: -1},
	{Name: "a", Kind: '5', Uid: 1 << 40},
	{Name: "a", Kind: '5', Gid: math.MinInt},
	{Name: "a", Kind: '5', Time: api.Time{Nano: -1}},
	{Name: "a", Kind: '5', User: repeat("u", 33)},
	{Name: "a", Kind: '5', Group: "\x00"},
	{Name: "a", Kind: '6', Major: 1},
	{Name: "a", Kind: '3', Minor: 1 << 21},
	{Name: "a", Kind: '0', Size: -1},
	{Name: "a", Kind: '0', Size: 4001, Data: repeat("d", 4001)},
	{Name: "a", Kind: '0', Size: 4001},
	{Name: "a", Kind: '0', Data: "d"},
	{Name: "a", Kind: '5', Data: "d"},
	{Name: "a", Kind: '6', Size: 1},
	{Name: "a", Kind: '0', Size: 1, Data: "d", Map: []api.Piece{{At: 1, Size: 1}}},
	{Name: "a", Kind: '0', Size: 9, Data: "de", Map: []api.Piece{{At: 1, Size: 1}, {At: 2, Size: 1}}},
	{Name: "a", Kind: '0', Size: 9, Data: "de", Map: []api.Piece{{At: math.MaxInt, Size: 2}}},
	{Name: "a", Kind: '1', Link: "f", Map: []api.Piece{{At: 0, Size: 1}}},
}

// wrongNames are names of valid members that no file of a tree can have.
var wrongNames = []string{"..", "../f", "/..", "a/../../f", "/../f", repeat("b/", 12) + "b", "./" + repeat("b/", 12) + "b"}

func TestIntoErrors(t *testing.T) {
	for _, e := range wrong {
		refuses(t, &tree.Tree{}, api.ErrArg, e)
		refuses(t, grown(t, makes("a", dir()), makes("f", fifo())), api.ErrArg, e)
		refuses(t, nil, api.ErrArg, e)
		if e.Name == "a" {
			// All else is asked for later.
			for _, name := range append([]string{".", "f/a"}, wrongNames...) {
				e.Name = name
				refuses(t, grown(t, makes("f", fifo())), api.ErrArg, e)
			}
		}
	}
	for _, name := range wrongNames {
		for _, kind := range kinds {
			refuses(t, &tree.Tree{}, api.ErrName, ofKind(name, kind))
			refuses(t, grown(t, makes("f", fifo()), makes("b", fifo())), api.ErrName, ofKind(name, kind))
		}
	}
	// A member of a tree that is not there has no place.
	for _, kind := range kinds {
		refuses(t, nil, api.ErrArg, ofKind("a", kind))
		refuses(t, nil, api.ErrArg, ofKind("..", kind))
		refuses(t, nil, api.ErrArg, ofKind(".", kind))
	}
}

// TestIntoDeep: 12 parts are as many as there may be, 120 bytes as long.
func TestIntoDeep(t *testing.T) {
	deep, acts := "", []api.Act(nil)
	for range 11 {
		deep += "b/"
		acts = append(acts, makes(deep[:len(deep)-1], dir()))
	}
	acts = append(acts, makes(deep+"b", api.Node{Kind: '6', Mode: 0o640}))
	for _, name := range []string{deep + "b", "/" + deep + "./b", deep + "c/../b"} {
		extracts(t, &tree.Tree{}, ofKind(name, '6'), acts...)
	}
	long := repeat("n", 120)
	extracts(t, &tree.Tree{}, ofKind(long, '6'), makes(long, api.Node{Kind: '6', Mode: 0o640}))
}

func TestHard(t *testing.T) {
	for _, n := range []api.Node{file("bytes"), soft("d"), soft("none"), fifo(), {Kind: '3', Major: 1}, {Kind: '4', Minor: 2}} {
		start := []api.Act{makes("d", dir()), makes("d/f", n), makes("g", file("other")), again("g", "h")}
		for _, link := range []string{"d/f", "/d/f", "d/./f/", "g/../d/f", "none/../d//f"} {
			// Nothing of the member counts but where it leads.
			e := api.Entry{Name: "a", Kind: '1', Mode: 0o7777, Uid: 1, Gid: 2, Time: api.Time{Sec: 3}, User: "root", Link: link}
			extracts(t, grown(t, start...), e, append(start[:4:4], again("d/f", "a"))...)
			e.Name = "d/e/../a"
			extracts(t, grown(t, start...), e, append(start[:4:4], again("d/f", "d/a"))...)
			e.Name = "b/c/a"
			extracts(t, grown(t, start...), e, append(start[:4:4], makes("b", dir()), makes("b/c", dir()), again("d/f", "b/c/a"))...)
			e.Name = "g"
			extracts(t, grown(t, start...), e, makes("d", dir()), makes("d/f", n), makes("h", file("other")), again("d/f", "g"))
			// It is a name of the file already.
			e.Name = "d/f"
			extracts(t, grown(t, start...), e, start...)
			e.Name = "a"
			extracts(t, grown(t, append(start[:4:4], again("d/f", "a"))...), e, append(start[:4:4], again("d/f", "a"))...)
		}
	}
}

func TestHardErrors(t *testing.T) {
	grow := func() *tree.Tree {
		return grown(t, makes("d", dir()), makes("d/e", dir()), makes("f", file("x")), makes("s", soft("d")), makes("d/f", file("x")), makes("o", fifo()))
	}
	for _, name := range []string{"a", "a/b", "f", "d", "f/a", "s/f", "d/e"} {
		for _, link := range wrongNames {
			refuses(t, grow(), api.ErrName, hard(name, link))
		}
		// They lead to where all names lie, or to nothing.
		for _, link := range []string{".", "/", "a/..", "///", "./", "none", "d/none", "d/e/f", "none/f", "s/f", "f/f", "f/none", "a", "a/b", "F"} {
			refuses(t, grow(), api.ErrMissing, hard(name, link))
		}
		for _, link := range []string{"d", "/d/e", "d/e/", "d/e/..", "./d"} {
			refuses(t, grow(), api.ErrState, hard(name, link))
		}
		refuses(t, &tree.Tree{}, api.ErrMissing, hard(name, "f"))
		refuses(t, &tree.Tree{}, api.ErrMissing, hard(name, name))
	}
	for _, name := range wrongNames {
		for _, link := range []string{"..", ".", "none", "d", "f", repeat("b/", 12) + "b"} {
			refuses(t, grow(), api.ErrName, hard(name, link))
		}
	}
	for _, name := range []string{"d", "d/e", "f/a", "o/a", "f/a/b", "s/a", "s/e", "d/f/a"} {
		refuses(t, grow(), api.ErrState, hard(name, "f"))
	}
}

// TestConfined: a name is not followed, wherever a link on its path leads.
func TestConfined(t *testing.T) {
	for _, link := range []string{"d", "/d", "..", "../..", "/", ".", "none", "s", "/etc"} {
		all := grown(t, makes("d", dir()), makes("s", soft(link)), makes("d/s", soft(link)))
		for _, kind := range kinds {
			for _, name := range []string{"s/a", "s/a/b", "d/s/a", "s/s", "/s/./a", "s/d/a"} {
				e := ofKind(name, kind)
				if e.Link != "" {
					e.Link = "s"
				}
				refuses(t, all, api.ErrState, e)
			}
		}
		// What is no part of the cleaned name is not on its path.
		extracts(t, all.Copy(), ofKind("s/../a", '5'), makes("d", dir()), makes("s", soft(link)), makes("d/s", soft(link)), makes("a", api.Node{Kind: '5', Mode: 0o640}))
		// The link itself gives way.
		extracts(t, all, ofKind("s", '5'), makes("d", dir()), makes("s", api.Node{Kind: '5', Mode: 0o640}), makes("d/s", soft(link)))
	}
}

// TestClearWay: on the path all must be directories, or missing.
func TestClearWay(t *testing.T) {
	for _, kind := range []byte{api.File, api.Soft, api.Char, api.Blk, api.Fifo} {
		n := api.Node{Kind: kind}
		if kind == api.Soft {
			n.Link = "d"
		}
		all := grown(t, makes("f", fifo()), makes("d", dir()), makes("d/x", n), makes("x", n))
		for _, of := range kinds {
			for _, name := range []string{"x/a", "x/a/b", "d/x/a", "d/x/a/b/c", "x/x"} {
				refuses(t, all, api.ErrState, ofKind(name, of))
			}
		}
	}
	// Directories that are there stay as they are.
	own := api.Node{Kind: '5', Mode: 0o1, Uid: 2, Gid: 3, Time: api.Time{Sec: 4}}
	all := grown(t, makes("d", own), makes("d/e", own))
	extracts(t, all, ofKind("d/e/f/g/a", '6'), makes("d", own), makes("d/e", own), makes("d/e/f", dir()), makes("d/e/f/g", dir()), makes("d/e/f/g/a", api.Node{Kind: '6', Mode: 0o640}))
}

// full is a tree with n names: `d`, `f`, and others.
func full(n int) []api.Act {
	acts := []api.Act{makes("d", dir()), makes("f", fifo())}
	for i := range n - 2 {
		acts = append(acts, makes(fmt.Sprint("f", i), fifo()))
	}
	return acts
}

func TestIntoFull(t *testing.T) {
	for _, kind := range kinds {
		n := api.Node{Kind: kind, Mode: 0o640}
		if kind == api.Soft {
			n.Link = "f"
		}
		act := func(name string) api.Act {
			if kind == api.Hard {
				return again("f", name)
			}
			return makes(name, n)
		}
		for count, room := range map[int]int{57: 3, 58: 2, 59: 1, 60: 0} {
			for need, name := range map[int]string{1: "d/a", 2: "d/e/a", 3: "d/e/e/a", 4: "d/e/e/e/a", 5: "g/e/e/e/a"} {
				if need > room {
					refuses(t, grown(t, full(count)...), api.ErrFull, ofKind(name, kind))
				}
			}
			if room >= 1 {
				extracts(t, grown(t, full(count)...), ofKind("g", kind), append(full(count), act("g"))...)
			}
			if room >= 3 {
				extracts(t, grown(t, full(count)...), ofKind("g/e/a", kind), append(full(count), makes("g", dir()), makes("g/e", dir()), act("g/e/a"))...)
			}
			// The name that goes makes room for the one that comes.
			acts := slices.Delete(full(count), 2, 3)
			extracts(t, grown(t, full(count)...), ofKind("f0", kind), append(acts, act("f0"))...)
		}
		refuses(t, grown(t, full(60)...), api.ErrState, ofKind("f0/a", kind))
	}
	acts := full(60)
	acts[0].Node.Mode = 0o640
	extracts(t, grown(t, full(60)...), ofKind("d", '5'), acts...)
	refuses(t, grown(t, full(60)...), api.ErrState, ofKind("d", '0'))
	refuses(t, grown(t, full(60)...), api.ErrMissing, hard("g", "none"))
	extracts(t, grown(t, full(60)...), hard("f", "f"), full(60)...)
}

func sameAll(t *testing.T, all *tree.Tree, l []api.Entry, want ...api.Diff) {
	t.Helper()
	if got := pack.All(all, l); !slices.Equal(got, want) {
		t.Errorf("All(%+.300v) = %v, want %v", l, got, want)
	}
}

func TestAll(t *testing.T) {
	var all tree.Tree
	sameAll(t, &all, nil)
	sameAll(t, &all, []api.Entry{})
	// Each member finds what the ones before it leave.
	sameAll(t, &all, []api.Entry{
		hard("early", "a/b"),
		ofKind("a/b", '6'),
		{Name: "../a", Kind: '5'},
		hard("late", "a/b"),
		ofKind("a", '0'),
		{},
		ofKind("late", '2'),
		ofKind("late/a", '2'),
		ofKind("late", '5'),
		ofKind("late/a", '2'),
	}, api.Diff{Which: 0, What: 7}, api.Diff{Which: 2, What: 5}, api.Diff{Which: 4, What: 6}, api.Diff{Which: 5, What: 1}, api.Diff{Which: 7, What: 6})
	n := api.Node{Kind: '5', Mode: 0o640}
	want := grown(t, makes("a", dir()), makes("a/b", api.Node{Kind: '6', Mode: 0o640}), makes("late", n), makes("late/a", api.Node{Kind: '2', Mode: 0o640, Link: "f"}))
	if seen(&all) != seen(want) {
		t.Errorf("All makes %s", seen(&all))
	}
	l := make([]api.Entry, 0, 70)
	var diffs []api.Diff
	for i := range 70 {
		l = append(l, ofKind(fmt.Sprint("g", i), '6'))
		if i >= 56 {
			diffs = append(diffs, api.Diff{Which: i, What: int(api.ErrFull)})
		}
	}
	sameAll(t, &all, l, diffs...)
	sameAll(t, nil, l[:2], api.Diff{Which: 0, What: 1}, api.Diff{Which: 1, What: 1})
}

func TestKeepsArguments(t *testing.T) {
	pieces := func() []api.Piece { return []api.Piece{{At: 1, Size: 1}, {At: 3, Size: 2}, {At: 9, Size: 9}}[:2] }
	list := func(l []api.Piece) []api.Entry {
		return []api.Entry{sparse("b", "xyz", 9, l...), ofKind("a", '5'), ofKind("c", '5')}[:2]
	}
	p := pieces()
	l := list(nil)
	l[0].Map = p
	var all tree.Tree
	sameAll(t, &all, l)
	before := seen(&all)
	if !reflect.DeepEqual(p[:3], pieces()[:3]) || l[0].Name != "b" || !reflect.DeepEqual(l[1:3], list(nil)[1:3]) {
		t.Error("All changes what it is given")
	}
	p[0], l[1] = api.Piece{}, api.Entry{}
	if seen(&all) != before {
		t.Error("All keeps what it is given")
	}
}

func Example() {
	var t tree.Tree
	fmt.Println(pack.All(&t, []api.Entry{
		{Name: "a/b", Kind: api.File, Size: 1, Data: "x"},
		{Name: "../c", Kind: api.Dir},
		{Name: "c", Kind: api.Hard, Link: "a/b"},
	}))
	for _, e := range pack.List(&t, false) {
		fmt.Printf("%c %s\n", e.Kind, strings.TrimSpace(e.Name+" "+e.Link))
	}
	// Output:
	// [{1 5}]
	// 5 a
	// 0 a/b
	// 1 c a/b
}
