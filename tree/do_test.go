package tree_test

import (
	"fmt"
	"math"
	"testing"

	"revetment/api"
	"revetment/tree"
)

// full is a tree with as many names as there may be: `d`, and 59 files.
func full(t *testing.T) *tree.Tree {
	t.Helper()
	all := grown(t, makes("d", dir()))
	for i := range 59 {
		does(t, all, makes(fmt.Sprint("f", i), fifo()))
	}
	return all
}

var wrongNames = []string{"", "/", ".", "..", "/b", "b/", "./b", "../b", "a/../b", "a//b", "b\x00", repeat("b", 121), repeat("b/", 12) + "b"}

func TestMake(t *testing.T) {
	for _, kind := range kinds {
		n := ofKind(kind)
		all := grown(t, makes("a", dir()), makes("a/b", n), makes("c", n))
		sameNames(t, all, "a", "a/b", "c")
		has(t, all, "a/b", n)
		sameAlike(t, all, "a/b", "c", false)
	}
	long := repeat("n", 120)
	all := grown(t, makes(long, fifo()))
	has(t, all, long, fifo())
	deep := "n"
	does(t, all, makes(deep, dir()))
	for range 11 {
		deep += "/n"
		does(t, all, makes(deep, dir()))
	}
	refuses(t, all, api.ErrName, makes(deep+"/n", fifo()))
}

// TestMakeOnly: what other actions use does not count.
func TestMakeOnly(t *testing.T) {
	a := makes("a", file("data"))
	a.To, a.N = "../b", -1
	all := grown(t, a)
	sameNames(t, all, "a")
	has(t, all, "a", file("data"))
}

// roomy is a tree to be refused in.
func roomy(t *testing.T) *tree.Tree {
	t.Helper()
	return grown(t, makes("d", dir()), makes("d/e", dir()), makes("f", file("data")), makes("d/s", soft("e")), makes("g", dir()))
}

// room checks the errors of room for a name in a roomy tree; act is none of `g` itself.
func room(t *testing.T, all *tree.Tree, act func(name string) api.Act) {
	t.Helper()
	for _, name := range wrongNames {
		refuses(t, all, api.ErrName, act(name))
	}
	// Nothing but the name itself is asked for first.
	refuses(t, all, api.ErrName, act("f/.."))
	refuses(t, all, api.ErrName, act("none/"))
	for _, name := range []string{"d", "d/e", "f", "d/s"} {
		refuses(t, all, api.ErrTwice, act(name))
	}
	for _, name := range []string{"f/a", "f/a/b", "f/" + repeat("a/", 10) + "a", "d/s/a", "d/s/d/a"} {
		refuses(t, all, api.ErrState, act(name))
	}
	for _, name := range []string{"none/a", "d/none/a", "d/e/none/a", "d/none/none/a", "d.e/a", "e/a"} {
		refuses(t, all, api.ErrMissing, act(name))
	}
}

func TestMakeRefused(t *testing.T) {
	all := roomy(t)
	room(t, all, func(name string) api.Act { return makes(name, fifo()) })
	for _, kind := range []byte{api.File, api.Soft, api.Char, api.Blk, api.Fifo} {
		own := grown(t, makes("a", ofKind(kind)))
		refuses(t, own, api.ErrState, makes("a/b", fifo()))
		refuses(t, own, api.ErrState, makes("a/b/c", dir()))
	}
	wrong := []api.Node{{}, {Kind: api.Hard, Link: "f"}, {Kind: '7'}, {Kind: api.Dir, Mode: -1}, {Kind: api.Dir, Data: "d"}, {Kind: api.Fifo, Mode: 0o10000}, {Kind: api.Soft}, {Kind: api.File, Data: repeat("d", 4001)}}
	for _, n := range wrong {
		refuses(t, all, api.ErrArg, makes("a", n))
		// The file is asked for ahead of the name.
		for _, name := range []string{"", "..", "f", "f/a", "none/a"} {
			refuses(t, all, api.ErrArg, makes(name, n))
		}
	}
}

func TestFull(t *testing.T) {
	all := full(t)
	refuses(t, all, api.ErrFull, makes("g", fifo()))
	refuses(t, all, api.ErrFull, makes("d/g", fifo()))
	refuses(t, all, api.ErrFull, again("f0", "g"))
	// It is asked for last.
	refuses(t, all, api.ErrArg, makes("g", api.Node{}))
	refuses(t, all, api.ErrName, makes("..", fifo()))
	refuses(t, all, api.ErrTwice, makes("f0", fifo()))
	refuses(t, all, api.ErrState, makes("f0/g", fifo()))
	refuses(t, all, api.ErrMissing, makes("g/g", fifo()))
	refuses(t, all, api.ErrName, again("f0", ".."))
	refuses(t, all, api.ErrTwice, again("f0", "f1"))
	refuses(t, all, api.ErrState, again("f0", "f0/g"))
	refuses(t, all, api.ErrMissing, again("f0", "g/g"))
	refuses(t, all, api.ErrState, again("d", "g"))
	// A name that moves takes no room.
	does(t, all, moves("f0", "d/g"), moves("d", "e"))
	hasNot(t, all, "f0")
	has(t, all, "e/g", fifo())
	refuses(t, all, api.ErrFull, makes("f0", fifo()))
	does(t, all, removes("e/g"), makes("f0", fifo()))
	refuses(t, all, api.ErrFull, makes("g", fifo()))
	does(t, all, removes("f1"), again("f0", "f1"))
	// Names are counted, not files.
	refuses(t, all, api.ErrFull, again("f0", "g"))
}

// TestUnknown: an action is asked for ahead of its name.
func TestUnknown(t *testing.T) {
	all := roomy(t)
	for _, what := range []int{math.MinInt, -1, 0, 9, 10, math.MaxInt} {
		for _, name := range []string{"", "f", "d", "none"} {
			refuses(t, all, api.ErrArg, api.Act{What: what, Name: name, To: "new", Node: dir()})
		}
	}
}

// TestMissing: a name is asked for ahead of all else.
func TestMissing(t *testing.T) {
	for _, all := range []*tree.Tree{roomy(t), {}} {
		for what := api.Again; what <= api.Touch; what++ {
			for _, name := range append([]string{"none", "f/a", "none/a", "/f", "f/", "d/../f"}, wrongNames...) {
				for _, to := range []string{"new", "..", "f", name, name + "/a", repeat("d", 4001)} {
					refuses(t, all, api.ErrMissing, api.Act{What: what, Name: name, To: to, N: -1, Node: api.Node{Uid: -1, Time: api.Time{Nano: -1}}})
				}
			}
		}
	}
}

func TestAgain(t *testing.T) {
	for _, kind := range []byte{api.File, api.Soft, api.Char, api.Blk, api.Fifo} {
		n := ofKind(kind)
		all := grown(t, makes("d", dir()), makes("a", n), again("a", "d/a"), again("d/a", "b"))
		sameNames(t, all, "a", "b", "d", "d/a")
		for _, name := range []string{"a", "b", "d/a"} {
			has(t, all, name, n)
			sameAlike(t, all, name, "a", true)
		}
	}
	all := roomy(t)
	room(t, all, func(name string) api.Act { return again("f", name) })
	// A directory is refused whatever its other name would be.
	for _, to := range append(wrongNames, "new", "d", "f", "f/a", "none/a", "d/new") {
		refuses(t, all, api.ErrState, again("d", to))
	}
}

// TestOneFile: what is done to a file is seen by each of its names.
func TestOneFile(t *testing.T) {
	all := grown(t, makes("a", file("one")), again("a", "b"), makes("c", file("one")))
	does(t, all, puts("b", "two"),
		api.Act{What: api.Chmod, Name: "a", N: 0o600},
		api.Act{What: api.Chown, Name: "b", Node: api.Node{Uid: 1, Gid: 2}},
		api.Act{What: api.Touch, Name: "a", Node: api.Node{Time: api.Time{Sec: 3, Nano: 4}}})
	want := api.Node{Kind: api.File, Mode: 0o600, Uid: 1, Gid: 2, Time: api.Time{Sec: 3, Nano: 4}, Data: "two"}
	has(t, all, "a", want)
	has(t, all, "b", want)
	has(t, all, "c", file("one"))
	does(t, all, removes("a"))
	has(t, all, "b", want)
	does(t, all, moves("b", "a"))
	has(t, all, "a", want)
	hasNot(t, all, "b")
}

func TestRemove(t *testing.T) {
	for _, kind := range kinds {
		all := grown(t, makes("a", ofKind(kind)), removes("a"))
		sameNames(t, all)
		refuses(t, all, api.ErrMissing, removes("a"))
	}
	all := grown(t, makes("a", dir()), makes("a/b", dir()), makes("a/b/c", fifo()), makes("a.b", fifo()), makes("ab", dir()), makes("ab/c", fifo()))
	refuses(t, all, api.ErrState, removes("a"))
	refuses(t, all, api.ErrState, removes("a/b"))
	does(t, all, removes("a/b/c"))
	refuses(t, all, api.ErrState, removes("a"))
	does(t, all, removes("a/b"), removes("a"))
	sameNames(t, all, "a.b", "ab", "ab/c")
	// To, and the rest, count for nothing.
	does(t, all, api.Act{What: api.Remove, Name: "a.b", To: "..", N: -1, Node: api.Node{Mode: -1}})
	sameNames(t, all, "ab", "ab/c")
}

func TestMove(t *testing.T) {
	all := grown(t, makes("a", dir()), makes("a/b", dir()), makes("a/b/c", file("c")), makes("a/d", soft("b")), makes("a.b", fifo()), makes("ab", dir()), makes("ab/c", fifo()), again("a/b/c", "ab/a"))
	does(t, all, moves("a", "ab/b"))
	sameNames(t, all, "a.b", "ab", "ab/a", "ab/b", "ab/b/b", "ab/b/b/c", "ab/b/d", "ab/c")
	has(t, all, "ab/b", dir())
	has(t, all, "ab/b/b/c", file("c"))
	has(t, all, "ab/b/d", soft("b"))
	sameAlike(t, all, "ab/b/b/c", "ab/a", true)
	does(t, all, moves("ab/b/b/c", "c"), moves("ab", "a"))
	sameNames(t, all, "a", "a/a", "a/b", "a/b/b", "a/b/d", "a/c", "a.b", "c")
	sameAlike(t, all, "c", "a/a", true)
	// Up to a directory of its own, and to a name that begins like it.
	does(t, all, moves("a/b/b", "b"), moves("b", "bb"), moves("bb", "b"), moves("a", "a.a"))
	sameNames(t, all, "a.a", "a.a/a", "a.a/b", "a.a/b/d", "a.a/c", "a.b", "b", "c")
	for _, kind := range kinds {
		all := grown(t, makes("d", dir()), makes("a", ofKind(kind)), moves("a", "d/b"))
		sameNames(t, all, "d", "d/b")
		has(t, all, "d/b", ofKind(kind))
	}
}

func TestMoveRefused(t *testing.T) {
	all := roomy(t)
	room(t, all, func(to string) api.Act { return moves("g", to) })
	// A name in itself is asked for ahead of room for it.
	for _, name := range all.Names() {
		for _, behind := range []string{"", "/a", "/e", "/e/a", "/", "/..", "/none/a", "/\x00", "/" + repeat("a", 120)} {
			refuses(t, all, api.ErrCycle, moves(name, name+behind))
		}
	}
	// What only begins alike is another name.
	does(t, all, moves("d", "dd"), moves("dd", "d"))
}

// TestMoveNames: names that lie in what moves may become too long.
func TestMoveNames(t *testing.T) {
	all := grown(t, makes("a", dir()), makes("a/"+repeat("n", 118), fifo()), makes("b", dir()), makes("cc", dir()))
	refuses(t, all, api.ErrName, moves("a", "bb"))
	refuses(t, all, api.ErrName, moves("a", "b/a"))
	// Room for the name itself comes ahead of that.
	refuses(t, all, api.ErrTwice, moves("a", "cc"))
	refuses(t, all, api.ErrMissing, moves("a", "dd/a"))
	refuses(t, all, api.ErrName, moves("a", ".."))
	does(t, all, moves("a", "d"))
	sameNames(t, all, "b", "cc", "d", "d/"+repeat("n", 118))
	does(t, all, moves("d/"+repeat("n", 118), "b/"+repeat("m", 118)))

	deep := grown(t, makes("a", dir()), makes("b", dir()))
	name := "a"
	for range 10 {
		name += "/a"
		does(t, deep, makes(name, dir()))
	}
	does(t, deep, moves("a", "b/a"), moves("b/a", "c"), makes("c/"+name[2:]+"/a", fifo()))
	refuses(t, deep, api.ErrName, moves("c", "b/a"))
	does(t, deep, moves("c/a", "b/a"))
}

func TestPut(t *testing.T) {
	all := grown(t, makes("d", dir()), makes("d/a", api.Node{Kind: api.File, Mode: 0o7777, Uid: 1, Gid: 2, Time: api.Time{Sec: 3}, Data: "old"}))
	for _, data := range []string{"", "new", "\x00", repeat("\xff", 4000), repeat("\x00", 4000), ""} {
		does(t, all, puts("d/a", data))
		has(t, all, "d/a", api.Node{Kind: api.File, Mode: 0o7777, Uid: 1, Gid: 2, Time: api.Time{Sec: 3}, Data: data})
	}
	does(t, all, puts("d/a", "kept"))
	refuses(t, all, api.ErrLimit, puts("d/a", repeat("d", 4001)))
	refuses(t, all, api.ErrLimit, puts("d/a", repeat("d", 100000)))
	for _, kind := range []byte{api.Soft, api.Char, api.Blk, api.Dir, api.Fifo} {
		all := grown(t, makes("a", ofKind(kind)))
		for _, data := range []string{"", "new", repeat("d", 4001)} {
			refuses(t, all, api.ErrState, puts("a", data))
		}
	}
}

// TestChange sets what belongs to an action, and nothing else of what it has.
func TestChange(t *testing.T) {
	for _, kind := range kinds {
		old := ofKind(kind)
		old.Mode, old.Uid, old.Gid, old.Time = 1, 2, 3, api.Time{Sec: 4, Nano: 5}
		given := api.Node{Kind: api.Hard, Mode: 0o777, Uid: 7, Gid: 8, Time: api.Time{Sec: -9, Nano: 10}, Data: "data", Link: "link", Major: 11, Minor: 12}
		for what, change := range map[int]func(n *api.Node){
			api.Chmod: func(n *api.Node) { n.Mode = 0o6 },
			api.Chown: func(n *api.Node) { n.Uid, n.Gid = 7, 8 },
			api.Touch: func(n *api.Node) { n.Time = api.Time{Sec: -9, Nano: 10} },
		} {
			all := grown(t, makes("a", old), makes("b", old), api.Act{What: what, Name: "a", To: "..", N: 0o6, Node: given})
			want := old
			change(&want)
			has(t, all, "a", want)
			has(t, all, "b", old)
			sameNames(t, all, "a", "b")
		}
	}
}

func TestChangeBounds(t *testing.T) {
	all := grown(t, makes("a", dir()), makes("a/b", fifo()))
	try := func(right bool, a api.Act) {
		t.Helper()
		a.Name = "a"
		if right {
			does(t, all, a)
		} else {
			refuses(t, all, api.ErrArg, a)
		}
	}
	for _, n := range []int{math.MinInt, -1, 0, 0o7777, 0o10000, 0o17777, 1<<40 - 1, 1 << 40, 1<<40 + 1, math.MaxInt} {
		try(n >= 0 && n <= 0o7777, api.Act{What: api.Chmod, N: n})
		try(n >= 0 && n < 1<<40, api.Act{What: api.Chown, Node: api.Node{Uid: n}})
		try(n >= 0 && n < 1<<40, api.Act{What: api.Chown, Node: api.Node{Gid: n}})
		try(n >= -1<<40 && n <= 1<<40, api.Act{What: api.Touch, Node: api.Node{Time: api.Time{Sec: n}}})
		try(n >= -1 && n <= 1<<40, api.Act{What: api.Touch, Node: api.Node{Time: api.Time{Sec: n, Nano: 999_999_999}}})
		try(n >= 0 && n < 1_000_000_000, api.Act{What: api.Touch, Node: api.Node{Time: api.Time{Nano: n}}})
	}
}
