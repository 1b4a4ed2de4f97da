package pack_test

import (
	"fmt"
	"reflect"
	"strings"
	"testing"

	"revetment/api"
	"revetment/hole"
	"revetment/member"
	"revetment/pack"
	"revetment/tree"
)

func repeat(s string, n int) string { return strings.Repeat(s, n) }

func zeros(n int) string { return repeat("\x00", n) }

func dir() api.Node { return api.Node{Kind: api.Dir, Mode: 0o755} }

func file(data string) api.Node { return api.Node{Kind: api.File, Mode: 0o644, Data: data} }

func soft(link string) api.Node { return api.Node{Kind: api.Soft, Mode: 0o777, Link: link} }

func fifo() api.Node { return api.Node{Kind: api.Fifo, Mode: 0o600} }

func makes(name string, n api.Node) api.Act { return api.Act{What: api.Make, Name: name, Node: n} }

func again(name, to string) api.Act { return api.Act{What: api.Again, Name: name, To: to} }

// grown is a tree in which all of this was done.
func grown(t *testing.T, acts ...api.Act) *tree.Tree {
	t.Helper()
	var all tree.Tree
	for _, a := range acts {
		if err := all.Do(a); err != nil {
			t.Fatalf("Do(%+.300v): %v", a, err)
		}
	}
	return &all
}

// seen is all that a tree tells of its names.
func seen(all *tree.Tree) string {
	var b strings.Builder
	names := all.Names()
	for _, name := range names {
		n, err := all.Get(name)
		fmt.Fprintf(&b, "%q %+v %v", name, n, err)
		for _, other := range names {
			if all.Alike(name, other) {
				fmt.Fprintf(&b, " %q", other)
			}
		}
		b.WriteString("\n")
	}
	return b.String()
}

// lists checks the members of a tree, with holes and without.
func lists(t *testing.T, all *tree.Tree, want, wantHoles []api.Entry) {
	t.Helper()
	before := seen(all)
	for holes, want := range map[bool][]api.Entry{false: want, true: wantHoles} {
		got := pack.List(all, holes)
		if len(got) != len(want) {
			t.Fatalf("List(holes %t) has %d members: %+.500v, want %d", holes, len(got), got, len(want))
		}
		for i, e := range got {
			if !reflect.DeepEqual(e, want[i]) {
				t.Errorf("List(holes %t)[%d] = %+.500v, want %+.500v", holes, i, e, want[i])
			}
			if !member.Right(e) {
				t.Errorf("List(holes %t)[%d] = %+.500v is not valid", holes, i, e)
			}
		}
	}
	if after := seen(all); after != before {
		t.Errorf("List changes the tree: %s, was %s", after, before)
	}
}

func TestList(t *testing.T) {
	late := api.Time{Sec: -1 << 40, Nano: 999_999_999}
	all := grown(t,
		makes("b", api.Node{Kind: api.Char, Mode: 0o7777, Uid: 1<<40 - 1, Gid: 5, Time: late, Major: 1<<21 - 1, Minor: 3}),
		makes("a-", api.Node{Kind: api.Blk, Mode: 1, Uid: 2, Gid: 1<<40 - 1, Major: 4, Minor: 1<<21 - 1}),
		makes("a", api.Node{Kind: api.Dir, Mode: 0o1750, Uid: 6, Gid: 7, Time: api.Time{Sec: 8, Nano: 9}}),
		makes("a/c", api.Node{Kind: api.File, Mode: 0o640, Uid: 10, Gid: 11, Time: api.Time{Sec: 12, Nano: 13}, Data: "bytes"}),
		makes("a/b", api.Node{Kind: api.Soft, Mode: 0o777, Uid: 14, Gid: 15, Time: api.Time{Sec: 16}, Link: "../b"}),
		makes("a.", api.Node{Kind: api.Fifo, Mode: 0o600, Uid: 17, Gid: 18, Time: api.Time{Nano: 19}}),
		makes("c", api.Node{Kind: api.File}),
	)
	want := []api.Entry{
		{Name: "a", Kind: '5', Mode: 0o1750, Uid: 6, Gid: 7, Time: api.Time{Sec: 8, Nano: 9}},
		{Name: "a/b", Kind: '2', Mode: 0o777, Uid: 14, Gid: 15, Time: api.Time{Sec: 16}, Link: "../b"},
		{Name: "a/c", Kind: '0', Mode: 0o640, Uid: 10, Gid: 11, Size: 5, Time: api.Time{Sec: 12, Nano: 13}, Data: "bytes"},
		{Name: "a-", Kind: '4', Mode: 1, Uid: 2, Gid: 1<<40 - 1, Major: 4, Minor: 1<<21 - 1},
		{Name: "a.", Kind: '6', Mode: 0o600, Uid: 17, Gid: 18, Time: api.Time{Nano: 19}},
		{Name: "b", Kind: '3', Mode: 0o7777, Uid: 1<<40 - 1, Gid: 5, Time: late, Major: 1<<21 - 1, Minor: 3},
		{Name: "c", Kind: '0'},
	}
	lists(t, all, want, want)
}

func TestListNothing(t *testing.T) {
	lists(t, &tree.Tree{}, nil, nil)
	lists(t, nil, nil, nil)
}

// TestListAgain: the first name in the order of names has the file, whichever name
// was there first.
func TestListAgain(t *testing.T) {
	common := api.Node{Mode: 0o640, Uid: 1, Gid: 2, Time: api.Time{Sec: 3, Nano: 4}}
	full := func(name string, n api.Node) api.Entry {
		return api.Entry{Name: name, Kind: n.Kind, Mode: n.Mode, Uid: n.Uid, Gid: n.Gid, Time: n.Time, Size: len(n.Data), Data: n.Data, Link: n.Link, Major: n.Major, Minor: n.Minor}
	}
	hard := func(name, first string) api.Entry {
		return api.Entry{Name: name, Kind: '1', Mode: 0o640, Uid: 1, Gid: 2, Time: api.Time{Sec: 3, Nano: 4}, Link: first}
	}
	for _, kind := range []byte{api.File, api.Soft, api.Char, api.Blk, api.Fifo} {
		n := common
		n.Kind = kind
		switch kind {
		case api.File:
			n.Data = "bytes" + zeros(507)
		case api.Soft:
			n.Link = "nowhere"
		case api.Char, api.Blk:
			n.Major, n.Minor = 5, 6
		}
		all := grown(t, makes("d", dir()), makes("e", n), again("e", "d/b"), makes("d/a", n), again("d/b", "d-"), again("d/a", "c"), again("e", "f"))
		want := []api.Entry{
			full("c", n),
			{Name: "d", Kind: '5', Mode: 0o755},
			hard("d/a", "c"),
			full("d/b", n),
			hard("d-", "d/b"),
			hard("e", "d/b"),
			hard("f", "d/b"),
		}
		lists(t, all, want, want)
	}
}

// TestListHoles: the bytes are left out by blocks, if there are fewer then.
func TestListHoles(t *testing.T) {
	x := repeat("x", 512)
	for _, c := range []struct {
		data, taken string
		pieces      []api.Piece
	}{
		{zeros(1), "", nil},
		{zeros(511), "", nil},
		{zeros(512), "", nil},
		{zeros(4000), "", nil},
		{zeros(512) + "x", "x", []api.Piece{{At: 512, Size: 1}}},
		{"x" + zeros(512), "x" + zeros(511), []api.Piece{{At: 0, Size: 512}}},
		{x + zeros(1), x, []api.Piece{{At: 0, Size: 512}}},
		{zeros(1024) + "x" + zeros(600), "x" + zeros(511), []api.Piece{{At: 1024, Size: 512}}},
		{zeros(512) + x + zeros(511) + "x" + zeros(512), x + zeros(511) + "x", []api.Piece{{At: 512, Size: 1024}}},
		{x + zeros(512) + x + zeros(512) + "y", x + x + "y", []api.Piece{{At: 0, Size: 512}, {At: 1024, Size: 512}, {At: 2048, Size: 1}}},
		{zeros(512) + x + zeros(512) + x + zeros(512) + x + zeros(512) + "x" + zeros(415), x + x + x + "x" + zeros(415),
			[]api.Piece{{At: 512, Size: 512}, {At: 1536, Size: 512}, {At: 2560, Size: 512}, {At: 3584, Size: 416}}},
	} {
		all := grown(t, makes("a", file(c.data)), again("a", "b"))
		hard := api.Entry{Name: "b", Kind: '1', Mode: 0o644, Link: "a"}
		lists(t, all,
			[]api.Entry{{Name: "a", Kind: '0', Mode: 0o644, Size: len(c.data), Data: c.data}, hard},
			[]api.Entry{{Name: "a", Kind: '0', Mode: 0o644, Size: len(c.data), Data: c.taken, Map: c.pieces}, hard})
		back, err := hole.Put(c.taken, c.pieces, len(c.data))
		if back != c.data || err != nil {
			t.Errorf("the pieces of %q are put back as %q, %v", c.data, back, err)
		}
	}
	for _, data := range []string{"", "x", x, x + "x", zeros(511) + "x", zeros(511) + "x" + "x", repeat("x", 4000), "x" + zeros(511), repeat("x"+zeros(511), 3) + "x"} {
		want := []api.Entry{{Name: "a", Kind: '0', Mode: 0o644, Size: len(data), Data: data}}
		lists(t, grown(t, makes("a", file(data))), want, want)
	}
}

// TestListIsNew: what is done to a list changes nothing of the next one.
func TestListIsNew(t *testing.T) {
	all := grown(t, makes("a", file(zeros(512)+"x")), makes("b", file(zeros(512)+"x")))
	l := pack.List(all, true)
	if &l[0].Map[0] == &l[1].Map[0] {
		t.Error("two members share their pieces")
	}
	l[0].Map[0], l[1] = api.Piece{}, api.Entry{}
	if got := fmt.Sprint(pack.List(all, true)); !strings.Contains(got, "[{512 1}]") || strings.Count(got, "{512 1}") != 2 {
		t.Errorf("List = %s", got)
	}
}
