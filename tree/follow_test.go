package tree_test

import (
	"fmt"
	"testing"

	"revetment/api"
	"revetment/plain"
	"revetment/tree"
)

func sameFollow(t *testing.T, all *tree.Tree, name, want string, wantErr api.Errno) {
	t.Helper()
	got, err := all.Follow(name)
	errno, place := plain.Place(err)
	if got != want || errno != wantErr || place != -1 {
		t.Errorf("Follow(%.100q) = %.200q, error %d at %d, want %q, %d", name, got, errno, place, want, wantErr)
	}
}

func leads(t *testing.T, all *tree.Tree, name, want string) {
	t.Helper()
	sameFollow(t, all, name, want, api.OK)
}

func strays(t *testing.T, all *tree.Tree, name string, err api.Errno) {
	t.Helper()
	sameFollow(t, all, name, "", err)
}

// TestFollowPlain: without links, a name leads to itself.
func TestFollowPlain(t *testing.T) {
	all := grown(t, makes("a", dir()), makes("a/b", dir()), makes("a/b/c", file("c")), makes("d", fifo()))
	for _, name := range all.Names() {
		leads(t, all, name, name)
		leads(t, all, "/"+name+"/", name)
		leads(t, all, "none/.././/"+name+"/.", name)
	}
	for _, all := range []*tree.Tree{all, {}, nil} {
		for _, name := range []string{"", "/", ".", "//./", "a/..", "none/..", "a/b/../.."} {
			leads(t, all, name, "")
		}
		for _, name := range []string{"..", "/..", "../a", "a/../..", "a/../../a", repeat("../", 1000)} {
			strays(t, all, name, api.ErrName)
		}
		for _, name := range []string{"none", "a/none", "none/a", "a/b/c/d", "d/a", "a/b/none", "\x00", repeat("n", 121), repeat("n/", 13), repeat("a/", 100000)} {
			strays(t, all, name, api.ErrMissing)
		}
	}
}

func TestFollowLinks(t *testing.T) {
	all := grown(t,
		makes("a", dir()),
		makes("a/b", dir()),
		makes("a/b/c", file("c")),
		makes("rel", soft("a/b")),
		makes("a/up", soft("../a/b/")),
		makes("a/abs", soft("/rel/c")),
		makes("a/here", soft(".")),
		makes("a/b/top", soft("/")),
		makes("two", soft("rel/../up/c")),
		makes("chain", soft("a/abs")),
		makes("above", soft("..")),
		makes("a/above", soft("../..")),
		makes("a/b/above", soft("/../a")),
		makes("none", soft("gone")),
		makes("a/none", soft("/a/gone/gone")),
		makes("inc", soft("a/b/c")),
	)
	again := api.Act{What: api.Again, Name: "a/abs", To: "rel2"}
	does(t, all, again)
	for name, want := range map[string]string{
		"rel":                 "a/b",
		"rel/":                "a/b",
		"/rel/c":              "a/b/c",
		"a/up":                "a/b",
		"a/up/c":              "a/b/c",
		"a/abs":               "a/b/c",
		"rel2":                "a/b/c",
		"a/here":              "a",
		"a/here/b":            "a/b",
		"a/here/here/here/b":  "a/b",
		"a/b/top":             "",
		"a/b/top/a":           "a",
		"rel/top/rel/c":       "a/b/c",
		"rel/top/rel/top":     "",
		"chain":               "a/b/c",
		"inc":                 "a/b/c",
		"a/b/top/a/up/c":      "a/b/c",
		"rel/../d/../a/here":  "a",
		"rel/top/a/up/top/":   "",
		"a/b/top/a/b/top/rel": "a/b",
	} {
		leads(t, all, name, want)
	}
	for name, err := range map[string]api.Errno{
		"above":      api.ErrName,
		"above/":     api.ErrName,
		"a/above":    api.ErrName,
		"a/b/above":  api.ErrName,
		"rel/above":  api.ErrName,
		"none":       api.ErrMissing,
		"none/b":     api.ErrMissing,
		"a/none":     api.ErrMissing,
		"rel/none":   api.ErrMissing,
		"inc/d":      api.ErrMissing,
		"rel/c/d":    api.ErrMissing,
		"a/b/top/no": api.ErrMissing,
		"two":        api.ErrMissing, // `..` is resolved ahead of the links: up/c
	} {
		strays(t, all, name, err)
	}
	// As the name is cleaned first, `..` removes a link, not where it leads.
	leads(t, all, "rel/../a", "a")
	// What the rest of the name holds counts for the link: it has no `..` more.
	leads(t, all, "a/here/above/../b", "a/b")
	strays(t, all, "above/a/b", api.ErrName)
}

// TestFollowShortest: it is the first link on the path that is replaced.
func TestFollowShortest(t *testing.T) {
	all := grown(t, makes("a", dir()), makes("b", dir()), makes("b/x", file("1")), makes("a/l", soft("../b")), makes("b/l", soft("x")), makes("k", soft("a")))
	leads(t, all, "k/l/x", "b/x")
	leads(t, all, "k/l/l", "b/x")
	leads(t, all, "a/l/l", "b/x")
	// A link that has become a directory is none more.
	does(t, all, removes("k"), makes("k", dir()), makes("k/l", dir()), makes("k/l/x", fifo()))
	leads(t, all, "k/l/x", "k/l/x")
}

func TestFollowCycle(t *testing.T) {
	all := grown(t, makes("self", soft("self")), makes("a", soft("b")), makes("b", soft("a")), makes("d", dir()), makes("d/in", soft("../d/in/x")), makes("grow", soft("grow/"+repeat("g/", 50))))
	for _, name := range []string{"self", "self/x", "a", "b", "b/c", "d/in", "d/in/in", "grow", "grow/x"} {
		strays(t, all, name, api.ErrCycle)
	}
	// What it would be in the end does not count.
	does(t, all, makes("n", soft("self/../..")), makes("m", soft("self/../../..")))
	strays(t, all, "n", api.ErrName)
	strays(t, all, "self/"+repeat("a/", 100), api.ErrCycle)
}

// TestFollowMany: eight links are gone by, and not a ninth.
func TestFollowMany(t *testing.T) {
	var all tree.Tree
	for i := range 20 {
		does(t, &all, makes(fmt.Sprint("n", i), soft(fmt.Sprint("n", i+1))))
	}
	for i := range 20 {
		if name := fmt.Sprint("n", i); 20-i > 8 {
			strays(t, &all, name, api.ErrCycle)
		} else {
			strays(t, &all, name, api.ErrMissing)
		}
	}
	does(t, &all, makes("n20", dir()), makes("n20/a", soft("/n20/b")), makes("n20/b", soft("..")))
	leads(t, &all, "n20", "n20")
	leads(t, &all, "n12", "n20")
	strays(t, &all, "n11", api.ErrCycle)
	leads(t, &all, "n14/a", "")
	strays(t, &all, "n13/a", api.ErrCycle)
	leads(t, &all, "n14/a/n20", "n20")
	strays(t, &all, "n14/a/n19", api.ErrCycle)
	strays(t, &all, "n14/a/x", api.ErrMissing)
	// The name that the eighth one leads above is no name, and the ninth is not gone by.
	does(t, &all, makes("n20/c", soft("../..")))
	strays(t, &all, "n13/c", api.ErrName)
	strays(t, &all, "n12/c", api.ErrCycle)
	does(t, &all, again("n20/c", "n20/d"))
	strays(t, &all, "n12/d", api.ErrCycle)
}
