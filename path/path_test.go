package path_test

import (
	"cmp"
	"fmt"
	"math/rand"
	"slices"
	"strings"
	"testing"

	"revetment/path"
	"revetment/sample"
)

const (
	mostBytes = 120
	mostParts = 12
)

func repeat(s string, n int) string { return strings.Repeat(s, n) }

// drawn is a name of few different parts, as these meet more often.
func drawn(r *rand.Rand) string {
	parts := []string{"", ".", "..", "...", "a", "b", "a", "b", "ab", "a.b", ".a", "a-", "\x00", "\xff", "\u00e9", "c d"}
	l := make([]string, r.Intn(8))
	for i := range l {
		l[i] = parts[r.Intn(len(parts))]
	}
	return strings.Join(l, "/")
}

// validNames are names that are valid, in directories that meet often.
func validNames(r *rand.Rand, n int) []string {
	parts := []string{"a", "b", "c", "...", "..a", "a."}
	var all []string
	for range n {
		l := make([]string, 1+r.Intn(mostParts))
		for i := range l {
			l[i] = parts[min(r.Intn(len(parts)), r.Intn(len(parts)))]
		}
		all = append(all, strings.Join(l, "/"))
	}
	return all
}

// wantParts goes byte by byte; a slash behind the name ends the last part.
func wantParts(name string) []string {
	var l []string
	part := []byte{}
	for _, c := range []byte(name + "/") {
		if c != '/' {
			part = append(part, c)
			continue
		}
		if s := string(part); s != "" && s != "." {
			l = append(l, s)
		}
		part = part[:0]
	}
	return l
}

// wantClean goes from the right to the left, where it is known already how many
// parts are removed.
func wantClean(name string) (string, bool) {
	removed, clean := 0, ""
	for _, part := range slices.Backward(wantParts(name)) {
		switch {
		case part == "..":
			removed++
		case removed > 0:
			removed--
		case clean == "":
			clean = part
		default:
			clean = part + "/" + clean
		}
	}
	return clean, removed == 0
}

func wantRight(name string) bool {
	parts := strings.Split(name, "/")
	for _, part := range parts {
		if part == "" || part == "." || part == ".." {
			return false
		}
	}
	return len(name) <= mostBytes && len(parts) <= mostParts && !slices.Contains([]byte(name), 0)
}

func wantUp(name string) (string, string) {
	for i := len(name) - 1; i >= 0; i-- {
		if name[i] == '/' {
			return name[:i], name[i+1:]
		}
	}
	return "", name
}

func wantIn(name, dir string) bool {
	if len(dir) == 0 || len(name) < len(dir) || name[:len(dir)] != dir {
		return len(dir) == 0
	}
	return len(name) == len(dir) || name[len(dir)] == '/'
}

// wantCompare compares texts in which the end of a part comes ahead of each byte.
func wantCompare(a, b string) int {
	text := func(name string) string {
		var all []byte
		for _, part := range wantParts(name) {
			for _, c := range []byte(part) {
				all = append(all, 1, c)
			}
			all = append(all, 0)
		}
		return string(all)
	}
	return cmp.Compare(text(a), text(b))
}

func wantTo(name, link string) (string, bool) {
	if len(link) > 0 && link[0] == '/' {
		return wantClean(link)
	}
	dir, _ := wantUp(name)
	return wantClean(dir + "/" + link)
}

// wantAway tries the links that go up and then down along the parts of to, the
// shortest ones first.
func wantAway(t *testing.T, name, to string) string {
	t.Helper()
	parts := strings.Split(to, "/")
	for length := 1; length <= 2*mostParts; length++ {
		for down := 1; down <= min(length, len(parts)); down++ {
			link := repeat("../", length-down) + strings.Join(parts[len(parts)-down:], "/")
			if got, ok := wantTo(name, link); ok && got == to {
				return link
			}
		}
	}
	t.Fatalf("no link leads from %q to %q", name, to)
	return ""
}

func wantSplit(name string) (string, string, bool) {
	if len(name) < 101 {
		return "", name, true
	}
	for i, c := range []byte(name) {
		front, back := name[:i], name[i+1:]
		if c == '/' && 1 <= len(front) && len(front) <= 155 && 1 <= len(back) && len(back) <= 100 {
			return front, back, true
		}
	}
	return "", "", false
}

// sameParts checks Parts twice: what is done to an answer does not reach the next one.
func sameParts(t *testing.T, name string, want []string) {
	t.Helper()
	for range 2 {
		got := path.Parts(name)
		if !slices.Equal(got, want) {
			t.Errorf("Parts(%.100q) = %.300q, want %.300q", name, got, want)
		}
		for i := range got {
			got[i] = "changed"
		}
	}
}

func sameClean(t *testing.T, name, want string, wantOK bool) {
	t.Helper()
	if got, ok := path.Clean(name); got != want || ok != wantOK {
		t.Errorf("Clean(%.100q) = %.100q, %t, want %.100q, %t", name, got, ok, want, wantOK)
	}
}

func sameRight(t *testing.T, name string, want bool) {
	t.Helper()
	if got := path.Right(name); got != want {
		t.Errorf("Right(%.200q) = %t", name, got)
	}
}

func sameUp(t *testing.T, name, wantDir, wantLast string) {
	t.Helper()
	if dir, last := path.Up(name); dir != wantDir || last != wantLast {
		t.Errorf("Up(%.100q) = %.100q, %.100q, want %.100q, %.100q", name, dir, last, wantDir, wantLast)
	}
}

func sameIn(t *testing.T, name, dir string, want bool) {
	t.Helper()
	if got := path.In(name, dir); got != want {
		t.Errorf("In(%.100q, %.100q) = %t", name, dir, got)
	}
}

func sameCompare(t *testing.T, a, b string, want int) {
	t.Helper()
	if got := path.Compare(a, b); cmp.Compare(got, 0) != want {
		t.Errorf("Compare(%.100q, %.100q) = %d, want the sign of %d", a, b, got, want)
	}
	if got := path.Compare(b, a); cmp.Compare(got, 0) != -want {
		t.Errorf("Compare(%.100q, %.100q) = %d, want the sign of %d", b, a, got, -want)
	}
}

func sameTo(t *testing.T, name, link, want string, wantOK bool) {
	t.Helper()
	if got, ok := path.To(name, link); got != want || ok != wantOK {
		t.Errorf("To(%.100q, %.100q) = %.100q, %t, want %.100q, %t", name, link, got, ok, want, wantOK)
	}
}

func sameAway(t *testing.T, name, to, want string) {
	t.Helper()
	if got := path.Away(name, to); got != want {
		t.Errorf("Away(%.150q, %.150q) = %.300q, want %.300q", name, to, got, want)
	}
}

func sameSplit(t *testing.T, name, wantFront, wantName string, wantOK bool) {
	t.Helper()
	if front, back, ok := path.Split(name); front != wantFront || back != wantName || ok != wantOK {
		t.Errorf("Split(%q) = %q, %q, %t, want %q, %q, %t", name, front, back, ok, wantFront, wantName, wantOK)
	}
}

func TestParts(t *testing.T) {
	for _, c := range []struct {
		name string
		want []string
	}{
		{"", nil},
		{"/", nil},
		{"//", nil},
		{".", nil},
		{"./.", nil},
		{"/./", nil},
		{"a", []string{"a"}},
		{"a/b/c", []string{"a", "b", "c"}},
		{"/a", []string{"a"}},
		{"a/", []string{"a"}},
		{"a//b", []string{"a", "b"}},
		{"./a/./b/.", []string{"a", "b"}},
		{"..", []string{".."}},
		{"a/../b", []string{"a", "..", "b"}},
		{"/../..", []string{"..", ".."}},
		{"...", []string{"..."}},
		{".a/a./..a", []string{".a", "a.", "..a"}},
		{" /\t/\n", []string{" ", "\t", "\n"}},
		{"a\\b", []string{"a\\b"}},
		{"\x00/\xff/\u00e9\u2215\uff0f", []string{"\x00", "\xff", "\u00e9\u2215\uff0f"}},
		{repeat("a/", 1000), slices.Repeat([]string{"a"}, 1000)},
		{repeat("/.", 100000), nil},
		{repeat("x", 100000), []string{repeat("x", 100000)}},
	} {
		sameParts(t, c.name, c.want)
	}
}

func TestClean(t *testing.T) {
	for _, c := range []struct {
		name, want string
		ok         bool
	}{
		{"", "", true},
		{"/", "", true},
		{".", "", true},
		{"//.//", "", true},
		{"a", "a", true},
		{"/a//b/./c/", "a/b/c", true},
		{"a/..", "", true},
		{"a/../", "", true},
		{"/a/../b", "b", true},
		{"a/b/..", "a", true},
		{"a/b/../c", "a/c", true},
		{"a/b/../..", "", true},
		{"a/b/../../c", "c", true},
		{"a/./..", "", true},
		{"a//..", "", true},
		{"a/b/./../c", "a/c", true},
		{"...", "...", true},
		{"a/...", "a/...", true},
		{"a/..b/b..", "a/..b/b..", true},
		{"a/.. ", "a/.. ", true},
		{"a/../..", "", false},
		{"a/../../b", "b", false},
		{"a/../../b/c/../d", "b/d", false},
		{"..", "", false},
		{"/..", "", false},
		{"./..", "", false},
		{"../a", "a", false},
		{"../../a/b", "a/b", false},
		{"../a/..", "", false},
		{"../a/../..", "", false},
		{"a/../../..", "", false},
		{"\x00/\xff/..", "\x00", true},
		{repeat("a/", 1000) + repeat("../", 999), "a", true},
		{repeat("a/", 1000) + repeat("../", 1000), "", true},
		{repeat("a/", 1000) + repeat("../", 1001) + "b", "b", false},
	} {
		sameClean(t, c.name, c.want, c.ok)
	}
}

func TestRight(t *testing.T) {
	for _, c := range []struct {
		name string
		want bool
	}{
		{"a", true},
		{"a/b", true},
		{"a/b/c.d", true},
		{"...", true},
		{"..a/.b/c..", true},
		{" ", true},
		{"\n", true},
		{"*", true},
		{"\\", true},
		{"\xff", true},
		{"\u00e9", true},
		{"", false},
		{"/", false},
		{".", false},
		{"..", false},
		{"/a", false},
		{"a/", false},
		{"a//b", false},
		{"./a", false},
		{"a/.", false},
		{"a/./b", false},
		{"../a", false},
		{"a/..", false},
		{"a/../a", false},
		{"a/../b", false},
		{"a/b/..", false},
		{"\x00", false},
		{"a\x00", false},
		{"\x00a", false},
		{"a/\x00/b", false},
		{repeat("a", 119) + "\x00", false},
		{repeat("a", 120), true},
		{repeat("a", 121), false},
		{repeat("\u00e9", 60), true},
		{repeat("\u00e9", 60) + "a", false},
		{repeat("a", 60) + "/" + repeat("b", 59), true},
		{repeat("a", 60) + "/" + repeat("b", 60), false},
		{repeat("a/", 11) + "a", true},
		{repeat("a/", 12) + "a", false},
		{repeat("a/", 12), false},
		{repeat("abcdefgh/", 12) + "abcdefgh", false},
		{repeat("abcdefghi/", 11) + "abcdefghij", true},
		{repeat("abcdefghi/", 11) + "abcdefghijk", false},
		{repeat("a", 100000), false},
		{repeat("a/", 100000), false},
	} {
		sameRight(t, c.name, c.want)
	}
	for n := 1; n <= 130; n++ {
		sameRight(t, repeat("n", n), n <= mostBytes)
		sameRight(t, repeat("n/", n-1)+"n", n <= mostParts)
	}
}

func TestUp(t *testing.T) {
	for _, c := range []struct{ name, dir, last string }{
		{"", "", ""},
		{"a", "", "a"},
		{"a/b", "a", "b"},
		{"a/b/c", "a/b", "c"},
		{"/", "", ""},
		{"/a", "", "a"},
		{"a/", "a", ""},
		{"//", "/", ""},
		{"//a", "/", "a"},
		{"a//b", "a/", "b"},
		{"a/.", "a", "."},
		{"a/..", "a", ".."},
		{"..", "", ".."},
		{"a\\b", "", "a\\b"},
		{"\x00/\xff", "\x00", "\xff"},
		{repeat("a/", 1000) + "b", repeat("a/", 999) + "a", "b"},
	} {
		sameUp(t, c.name, c.dir, c.last)
	}
}

func TestIn(t *testing.T) {
	for _, c := range []struct {
		name, dir string
		want      bool
	}{
		{"", "", true},
		{"a", "", true},
		{"/a", "", true},
		{"..", "", true},
		{"a", "a", true},
		{"a/b", "a", true},
		{"a/b/c", "a", true},
		{"a/b/c", "a/b", true},
		{"a/b/c", "a/b/c", true},
		{"a/", "a", true},
		{"a//b", "a", true},
		{"a//b", "a/", true},
		{"a/../b", "a", true},
		{"/a", "/", false},
		{"//a", "/", true},
		{"/", "/", true},
		{"", "a", false},
		{"", "/", false},
		{"a", "a/", false},
		{"a", "a/b", false},
		{"ab", "a", false},
		{"a.b", "a", false},
		{"ab/c", "a", false},
		{"b/a", "a", false},
		{"a/bc", "a/b", false},
		{"a/b", "a/", false},
		{"a/b", "./a", false},
		{"A/b", "a", false},
		{"\xff/a", "\xff", true},
		{"\u00e9/a", "\xc3", false},
		{repeat("a/", 1000), repeat("a/", 998) + "a", true},
	} {
		sameIn(t, c.name, c.dir, c.want)
	}
}

func TestCompare(t *testing.T) {
	// Each is smaller than all behind it; a slash is no byte among others.
	ordered := []string{"", "\x00", "..", "...", "A", "a", "a/\x00", "a/a", "a/a/a", "a/b", "a/b/a", "a\x00", "a b", "a-b/c", "a.b", "a.b/c", "a0", "ab", "ab/a", "b", "\u00e9", "\xff", "\xff/a"}
	for i, a := range ordered {
		for j, b := range ordered {
			sameCompare(t, a, b, cmp.Compare(i, j))
		}
	}
	for _, c := range []struct{ a, b string }{
		{"", "/"},
		{"", "."},
		{"a", "/a"},
		{"a", "a/"},
		{"a", "./a/."},
		{"a/b", "a//b"},
		{"../a", "/../a"},
	} {
		sameCompare(t, c.a, c.b, 0)
	}
	// `..` is a part like others here.
	sameCompare(t, "a/../b", "b", -1)
	sameCompare(t, "a/..", "", 1)
	sameCompare(t, repeat("a/", 1000), repeat("a/", 1001), -1)
	sameCompare(t, repeat("a/", 1000)+"b", repeat("a/", 1001), 1)
}

func TestTo(t *testing.T) {
	for _, c := range []struct {
		name, link, want string
		ok               bool
	}{
		{"a/b/c", "../d", "a/d", true},
		{"a", "b", "b", true},
		{"a/b", "c", "a/c", true},
		{"a/b", "c/d", "a/c/d", true},
		{"a/b", "/c", "c", true},
		{"a/b", "/c/../d", "d", true},
		{"a/b", "/", "", true},
		{"a/b", "//c", "c", true},
		{"a/b", "", "a", true},
		{"a", "", "", true},
		{"a/b", ".", "a", true},
		{"a/b", "..", "", true},
		{"a/b", "../b", "b", true},
		{"a/b", "../a/b", "a/b", true},
		{"a/b", "./c//d/", "a/c/d", true},
		{"a/b/c", "../../d", "d", true},
		{"a/b/c", "d/../..", "a", true},
		{"a/b", "...", "a/...", true},
		{"", "", "", true},
		{"", "a", "a", true},
		{"/a", "b", "b", true},
		{"a/", "b", "a/b", true},
		{"a/../b", "c", "c", true},
		{"a/..", "c", "a/c", true},
		{"a", "..", "", false},
		{"a", "../b", "b", false},
		{"a/b", "../..", "", false},
		{"a/b", "../../c", "c", false},
		{"a/b", "/..", "", false},
		{"a/b", "/../c", "c", false},
		{"..", "a", "a", true},
		{"../a", "b", "b", false},
		{"a/../../b", "c", "c", false},
		{"\xff/a", "\x00", "\xff/\x00", true},
	} {
		sameTo(t, c.name, c.link, c.want, c.ok)
	}
}

func TestAway(t *testing.T) {
	deep := repeat("a/", 11)
	for _, c := range []struct{ name, to, want string }{
		{"a/b/c", "a/d", "../d"},
		{"a", "b", "b"},
		{"a", "a", "a"},
		{"a", "a/b", "a/b"},
		{"a", "b/c", "b/c"},
		{"a/b", "a", "../a"},
		{"a/b", "a/b", "b"},
		{"a/b", "a/c", "c"},
		{"a/b", "a/b/c", "b/c"},
		{"a/b", "a/c/d", "c/d"},
		{"a/b", "c", "../c"},
		{"a/b", "b", "../b"},
		{"a/b", "b/b", "../b/b"},
		{"a/b", "ab/c", "../ab/c"},
		{"a/b/c", "a", "../../a"},
		{"a/b/c", "a/b", "../b"},
		{"a/b/c", "a/c/c", "../c/c"},
		{"a/b/c", "b/b/c", "../../b/b/c"},
		{"a/b/c/d", "a/x/c/d", "../../x/c/d"},
		{"...", "..a/b.", "..a/b."},
		{"\xff/a", "\xfe", "../\xfe"},
		{deep + "a", "b", repeat("../", 11) + "b"},
		{deep + "a", deep + "b", "b"},
		{"b", deep + "a", deep + "a"},
		{repeat("b/", 11) + "c", deep + "a", repeat("../", 11) + deep + "a"},
		{"a/" + repeat("x", 118), repeat("y", 120), "../" + repeat("y", 120)},
	} {
		sameAway(t, c.name, c.to, c.want)
	}
}

// TestAwayOfNone: what the document leaves open is empty.
func TestAwayOfNone(t *testing.T) {
	for _, none := range []string{"", "/", "/a", "a/", ".", "..", "../a", "a//b", "a/../b", "\x00", repeat("a", 121), repeat("a/", 12) + "a"} {
		sameAway(t, none, "a/b", "")
		sameAway(t, "a/b", none, "")
		sameAway(t, none, none, "")
	}
}

func TestSplit(t *testing.T) {
	a, b := func(n int) string { return repeat("a", n) }, func(n int) string { return repeat("b", n) }
	for _, c := range []struct {
		name, front, back string
		ok                bool
	}{
		{"", "", "", true},
		{"a", "", "a", true},
		{"a/b", "", "a/b", true},
		{"/", "", "/", true},
		{a(100), "", a(100), true},
		{a(49) + "/" + b(50), "", a(49) + "/" + b(50), true},
		{"/" + b(99), "", "/" + b(99), true},
		{a(99) + "/", "", a(99) + "/", true},
		{repeat("\u00e9", 50), "", repeat("\u00e9", 50), true},
		{a(101), "", "", false},
		{repeat("\u00e9", 50) + "a", "", "", false},
		{a(50) + "/" + b(50), a(50), b(50), true},
		{"a/" + b(99), "a", b(99), true},
		{"a/" + b(100), "a", b(100), true},
		{"a/" + b(101), "", "", false},
		{"/" + b(100), "", "", false},
		{"/" + b(101), "", "", false},
		{a(99) + "/b", a(99), "b", true},
		{a(100) + "/b", a(100), "b", true},
		{a(100) + "/", "", "", false},
		{a(155) + "/b", a(155), "b", true},
		{a(155) + "/" + b(100), a(155), b(100), true},
		{a(155) + "/" + b(101), "", "", false},
		{a(156) + "/b", "", "", false},
		{a(156) + "/" + b(100), "", "", false},
		{a(155) + "/", "", "", false},
		{a(155) + "//", a(155), "/", true},
		{"/" + a(154) + "/" + b(100), "/" + a(154), b(100), true},
		{"//" + b(99), "/", b(99), true},
		{"//" + b(100), "/", b(100), true},
		{"//" + b(101), "", "", false},
		{a(50) + "/" + a(20) + "/" + b(50), a(50), a(20) + "/" + b(50), true},
		{a(50) + "/" + a(50) + "/" + b(50), a(50) + "/" + a(50), b(50), true},
		{a(50) + "/" + a(49) + "/" + b(50), a(50), a(49) + "/" + b(50), true},
		{a(155) + "/" + a(49) + "/" + b(50), a(155), a(49) + "/" + b(50), true},
		{a(155) + "/" + a(49) + "/" + b(51), "", "", false},
		{a(154) + "/" + "/" + b(100), a(154) + "/", b(100), true},
		{a(154) + "/" + "/" + b(99), a(154), "/" + b(99), true},
		{repeat("a/", 128), repeat("a/", 77) + "a", repeat("a/", 50), true},
		{repeat("a/", 129), "", "", false},
		{repeat("/", 100), "", repeat("/", 100), true},
		{repeat("/", 101), "/", repeat("/", 99), true},
		{repeat("/", 256), repeat("/", 155), repeat("/", 100), true},
		{repeat("/", 257), "", "", false},
		{repeat("\x00", 60) + "/" + repeat("\xff", 60), repeat("\x00", 60), repeat("\xff", 60), true},
		{a(100000), "", "", false},
		{repeat("a/", 100000), "", "", false},
	} {
		sameSplit(t, c.name, c.front, c.back, c.ok)
	}
}

// checkName holds against the references what is asked of one name.
func checkName(t *testing.T, name string) {
	t.Helper()
	sameParts(t, name, wantParts(name))
	clean, ok := wantClean(name)
	sameClean(t, name, clean, ok)
	sameClean(t, clean, clean, true)
	sameRight(t, name, wantRight(name))
	dir, last := wantUp(name)
	sameUp(t, name, dir, last)
	front, back, ok := wantSplit(name)
	sameSplit(t, name, front, back, ok)
}

// checkNames holds against the references what is asked of two names.
func checkNames(t *testing.T, a, b string) {
	t.Helper()
	sameIn(t, a, b, wantIn(a, b))
	sameCompare(t, a, b, wantCompare(a, b))
	want, ok := wantTo(a, b)
	sameTo(t, a, b, want, ok)
	if !wantRight(a) || !wantRight(b) {
		sameAway(t, a, b, "")
		return
	}
	link := wantAway(t, a, b)
	sameAway(t, a, b, link)
	sameTo(t, a, link, b, true)
	if a != b && wantIn(a, b) {
		sameCompare(t, b, a, -1)
	}
}

func TestAllShortNames(t *testing.T) {
	for _, name := range sample.Texts("ab./", 7) {
		checkName(t, name)
	}
	short := sample.Texts("a./", 5)
	for _, a := range short {
		for _, b := range short {
			checkNames(t, a, b)
		}
	}
}

func TestDrawnNames(t *testing.T) {
	r := rand.New(rand.NewSource(1))
	for range 20000 {
		a, b := drawn(r), drawn(r)
		checkName(t, a)
		checkNames(t, a, b)
		checkNames(t, a, a+"/"+b)
		checkNames(t, a+b, a)
	}
}

func TestDrawnValidNames(t *testing.T) {
	names := validNames(rand.New(rand.NewSource(2)), 120)
	for _, a := range names {
		checkName(t, a)
		for _, b := range names {
			checkNames(t, a, b)
		}
	}
}

func TestDrawnLongNames(t *testing.T) {
	r := rand.New(rand.NewSource(3))
	for range 20000 {
		var b strings.Builder
		for length, most := r.Intn(270), 1+r.Intn(160); b.Len() < length; {
			b.WriteString(repeat("n", r.Intn(most)))
			b.WriteString(repeat("/", r.Intn(3)))
		}
		checkName(t, b.String())
	}
}

// TestDirectoriesPrecede sorts names: a directory stands ahead of what lies in
// it, and nothing else stands in between.
func TestDirectoriesPrecede(t *testing.T) {
	names := validNames(rand.New(rand.NewSource(4)), 300)
	names = append(names, "a", "a-", "a-/b", "a/a", "a/b", "a.a", "a0")
	slices.SortFunc(names, path.Compare)
	for i, dir := range names {
		left := false
		for _, name := range names[i+1:] {
			in := path.In(name, dir)
			if in && left {
				t.Errorf("%q stands apart from its directory %q", name, dir)
			}
			left = left || !in
		}
		for _, name := range names[:i] {
			if name != dir && path.In(name, dir) {
				t.Errorf("%q stands ahead of its directory %q", name, dir)
			}
		}
	}
}

func Example() {
	link := path.Away("a/b/c", "a/d")
	fmt.Println(link)
	fmt.Println(path.To("a/b/c", link))
	// Output:
	// ../d
	// a/d true
}

func FuzzNames(f *testing.F) {
	f.Add("a/b/c", "a/d")
	f.Add("../a", "/b/./..")
	f.Fuzz(func(t *testing.T, a, b string) {
		if len(a) < 1000 && len(b) < 1000 {
			checkName(t, a)
			checkNames(t, a, b)
		}
	})
}
