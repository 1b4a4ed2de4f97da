package glob_test

import (
	"fmt"
	"math/rand"
	"regexp"
	"strings"
	"testing"

	"revetment/api"
	"revetment/glob"
	"revetment/plain"
	"revetment/sample"
)

const mostBytes = 120

func repeat(s string, n int) string { return strings.Repeat(s, n) }

// runes are the bytes of s as runes of the same numbers, as regular expressions
// match runes.
func runes(s string) string {
	l := make([]rune, len(s))
	for i := range l {
		l[i] = rune(s[i])
	}
	return string(l)
}

// A letter is a byte of a pattern; escaped, if `\` stood before it.
type letter struct {
	c       byte
	escaped bool
}

func letters(pattern string) (l []letter, ok bool) {
	for i := 0; i < len(pattern); i++ {
		escaped := pattern[i] == '\\'
		if escaped {
			i++
		}
		if i == len(pattern) {
			return nil, false
		}
		l = append(l, letter{pattern[i], escaped})
	}
	return l, true
}

func (l letter) is(c byte) bool { return !l.escaped && l.c == c }

// wantSet is a set's class: it looks for the end first, and only then for ranges.
func wantSet(l []letter) (class string, length int, ok bool) {
	start := 0
	if len(l) > 0 && (l[0].is('!') || l[0].is('^')) {
		start = 1
	}
	end := start + 1
	for end < len(l) && !l[end].is(']') {
		end++
	}
	if end >= len(l) {
		return "", 0, false
	}
	in := map[byte]bool{}
	for i := start; i < end; i++ {
		if i+2 < end && l[i+1].is('-') {
			for c := int(l[i].c); c <= int(l[i+2].c); c++ {
				in[byte(c)] = true
			}
			i += 2
		} else {
			in[l[i].c] = true
		}
	}
	class = "["
	for c := range 256 {
		if c != '/' && in[byte(c)] == (start == 0) {
			class += fmt.Sprintf(`\x{%x}`, c)
		}
	}
	if class == "[" {
		class = `[^\x{0}-\x{10ffff}`
	}
	return class + "]", end + 1, true
}

// wantPattern translates a pattern into a regular expression.
func wantPattern(pattern string) (*regexp.Regexp, bool) {
	l, ok := letters(pattern)
	if !ok {
		return nil, false
	}
	text := `(?s)\A`
	for i := 0; i < len(l); i++ {
		switch {
		case l[i].is('*') && i+1 < len(l) && l[i+1].is('*'):
			text += `.*`
			i++
		case l[i].is('*'):
			text += `[^/]*`
		case l[i].is('?'):
			text += `[^/]`
		case l[i].is('['):
			class, length, ok := wantSet(l[i+1:])
			if !ok {
				return nil, false
			}
			text += class
			i += length
		default:
			text += fmt.Sprintf(`\x{%x}`, l[i].c)
		}
	}
	return regexp.MustCompile(text + `\z`), true
}

// sameError wants an error without a position.
func sameError(t *testing.T, what string, err error, want api.Errno) {
	t.Helper()
	if e, place := plain.Place(err); e != want || place != -1 {
		t.Fatalf("%s: error %v at %v, want %v", what, e, place, want)
	}
}

// sameMatches holds a pattern against the reference, for all the names.
func sameMatches(t *testing.T, pattern string, names []string) {
	t.Helper()
	want, valid := wantPattern(pattern)
	if got := glob.Right(pattern); got != valid {
		t.Fatalf("Right(%q) = %v, want %v", pattern, got, valid)
	}
	for _, name := range names {
		got, err := glob.Match(pattern, name)
		what := fmt.Sprintf("Match(%q, %q)", pattern, name)
		if !valid {
			sameError(t, what, err, api.ErrForm)
		} else {
			sameError(t, what, err, api.OK)
		}
		if should := valid && want.MatchString(runes(name)); got != should {
			t.Fatalf("%s = %v, want %v", what, got, should)
		}
	}
}

func TestMatch(t *testing.T) {
	for _, c := range []struct{ pattern, matched, others string }{
		{"", "", "a /"},
		{"*.go", "a.go .go", "b/a.go a.gob a.g"},
		{"a", "a", "b A aa"},
		{"*", "a ab *", "a/b / a/"},
		{"**", "a a/b / // /a/", ""},
		{"***", "a a/b a/b/c", ""},
		{"****", "a a/b a/b/c", ""},
		{"a*/b", "a/b aa/b", "a/a/b a/ab"},
		{"a**/b", "a/b a/a/b aa/b", "ab a/ab"},
		{"a**b*c", "abc a/b/bc axbyc", "abbc/ a/b/c ab/c"},
		{"*a*a*", "aa abab xaxax", "a xax a/a"},
		{"?", "a * ? ]", "/ ab"},
		{"a?c", "abc a?c", "a/c ac abbc"},
		{`\*`, "*", "a \\*"},
		{`\a`, "a", "\\a"},
		{`\\`, "\\", "\\\\"},
		{`\[a]`, "[a]", "a"},
		{`\**`, "* *a **", "a"},
		{`*\*`, "* a* **", "a a/* *a"},
		{`a\/b`, "a/b", "a\\/b ab"},
		{"a/b", "a/b", "ab"},
		{"]", "]", "a"},
		{"a-b!^]", "a-b!^]", "a"},

		{"[ab]", "a b", "c ab [ab]"},
		{"[]]", "]", "[ []]"},
		{"[]a]", "] a", "[ b []a]"},
		{"[!]a]", "b [ !", "] a"},
		{"[^]a]", "b [ ^", "] a"},
		{"[a]]", "a]", "a ]"},
		{"[!a]", "b !", "a /"},
		{"[^a]", "b ^", "a /"},
		{"[a!]", "a !", "b"},
		{"[a^]", "a ^", "b"},
		{"[!!]", "a ^", "!"},
		{"[!^]", "a !", "^"},
		{"[^!]", "a ^", "!"},
		{"[!!a]", "b ^", "! a"},
		{`[\!a]`, "! a", "b"},
		{`[\^a]`, "^ a", "b"},
		{"[a-c]", "a b c", "d - A"},
		{"[c-a]", "", "a b c -"},
		{"[!c-a]", "a b c -", "/"},
		{"[a-a]", "a", "b -"},
		{"[a-]", "a -", "b ]"},
		{"[-a]", "- a", "b"},
		{"[-]", "-", "a"},
		{"[--a]", "- . a A", "b ,"},
		{"[---]", "-", ". ,"},
		{"[a--]", "", "a - b"},
		{"[!-a]", "b", "- a /"},
		{"[a-c-e]", "a b c - e", "d"},
		{"[a-ce-g]", "a b c e f g", "d -"},
		{"[]-a]", "] ^ a", "- \\ b"},
		{"[a-]]", "a] -]", "a ] b]"},
		{"[a-]-]", "a-] --]", "a b-]"},
		{`[a-\]]`, "", "a ] - \\"},
		{`[Z-\]]`, "Z [ \\ ]", "Y ^ -"},
		{`[\a-\c]`, "a b c", "- \\ d"},
		{`[a\-c]`, "a - c", "b \\"},
		{`[\]]`, "]", "\\ a"},
		{`[a\]b]`, "a ] b", "\\ a]"},
		{`[\\]`, "\\", "a ]"},
		{`[a-\\]`, "", "a \\ -"},
		{"[[]", "[", "] a"},
		{"[[a]]", "[] a]", "[ a ]"},
		{"[*]", "*", "a"},
		{"[?]", "?", "a"},
		{"[/]", "", "/ a"},
		{"[a/]", "a", "/"},
		{`[\/]`, "", "/ \\"},
		{"[.-0]", ". 0", "/ 1"},
		{"[!/]", "a", "/"},
		{"[!b]*", "a ac", "b / a/"},
		{"*[a-c]", "a xb", "d x/a"},
	} {
		matched, others := strings.Fields(c.matched), strings.Fields(c.others)
		for i, name := range append(matched, others...) {
			got, err := glob.Match(c.pattern, name)
			if want := i < len(matched); err != nil || got != want {
				t.Errorf("Match(%q, %q) = %v, %v, want %v", c.pattern, name, got, err, want)
			}
		}
		if !glob.Right(c.pattern) {
			t.Errorf("Right(%q) = false", c.pattern)
		}
		sameMatches(t, c.pattern, append(matched, others...))
	}
	for pattern, want := range map[string]bool{"": true, "*": true, "**": true, "***": true, "?": false, "a": false, "[!a]": false, "*?": false} {
		if got, err := glob.Match(pattern, ""); err != nil || got != want {
			t.Errorf(`Match(%q, "") = %v, %v, want %v`, pattern, got, err, want)
		}
	}
}

func TestInvalid(t *testing.T) {
	for _, pattern := range []string{
		"[", "[a", "[!", "[^", "[]", "[!]", "[^]", "[]a", "[a-", "[a-b", "[-", `[a\]`, `[\]`, `[a-\]`,
		"a[", "b[a", "**[", "*.go[", "[a][", `\[[`, "[[", "[/",
		`\`, `a\`, `\\\`, `*\`, `[\`, `[a\`, `[!\`, `[a-\`, `[a]\`,
	} {
		for _, name := range []string{"", "a", "b", "/", `\`, "[", pattern} {
			ok, err := glob.Match(pattern, name)
			sameError(t, fmt.Sprintf("Match(%q, %q)", pattern, name), err, api.ErrForm)
			if ok {
				t.Errorf("Match(%q, %q) = true with an error", pattern, name)
			}
		}
		if glob.Right(pattern) {
			t.Errorf("Right(%q) = true", pattern)
		}
		sameMatches(t, pattern, []string{""})
	}
}

func TestLimits(t *testing.T) {
	long, longer := repeat("a", mostBytes), repeat("a", mostBytes+1)
	set := "[" + repeat("a", mostBytes-2) + "]"
	for _, c := range []struct {
		pattern, name string
		ok            bool
		err           api.Errno
	}{
		{long, long, true, api.OK},
		{long, longer, false, api.ErrLimit},
		{longer, long, false, api.ErrLimit},
		{longer, longer, false, api.ErrLimit},
		{longer, "", false, api.ErrLimit},
		{"", longer, false, api.ErrLimit},
		{"", long, false, api.OK},
		{"**", long, true, api.OK},
		{"**", longer, false, api.ErrLimit},
		{repeat("*", mostBytes), long, true, api.OK},
		{repeat("*", mostBytes), "", true, api.OK},
		{repeat("?", mostBytes), long, true, api.OK},
		{repeat("?", mostBytes), long[1:], false, api.OK},
		{set, "a", true, api.OK},
		{set + "*", "a", false, api.ErrLimit},
		{"[", longer, false, api.ErrLimit},
		{repeat("[", mostBytes+1), "", false, api.ErrLimit},
		{repeat("[", mostBytes), "", false, api.ErrForm},
		{repeat(`\`, mostBytes+1), longer, false, api.ErrLimit},
		{repeat(`\`, mostBytes), repeat(`\`, mostBytes/2), true, api.OK},
		{repeat(`\`, mostBytes-1), "", false, api.ErrForm},
		{repeat("a", mostBytes-1) + "[", long, false, api.ErrForm},
	} {
		ok, err := glob.Match(c.pattern, c.name)
		sameError(t, fmt.Sprintf("Match(%q, %q)", c.pattern, c.name), err, c.err)
		if ok != c.ok {
			t.Errorf("Match(%q, %q) = %v, want %v", c.pattern, c.name, ok, c.ok)
		}
		_, valid := wantPattern(c.pattern)
		if got, want := glob.Right(c.pattern), valid && len(c.pattern) <= mostBytes; got != want {
			t.Errorf("Right(%q) = %v, want %v", c.pattern, got, want)
		}
	}
}

func TestAllPatterns(t *testing.T) {
	names := sample.Texts("a/*", 3)
	for _, pattern := range sample.Texts("*?a/", 5) {
		sameMatches(t, pattern, names)
	}
	names = sample.Texts(`a-]\/[`, 2)
	for _, pattern := range sample.Texts(`*?[]!^-\/a`, 4) {
		sameMatches(t, pattern, names)
	}
}

func TestAllSets(t *testing.T) {
	names := sample.Texts(`!-./\]^_abc`, 1)
	for _, s := range sample.Texts(`!-\]ac`, 5) {
		sameMatches(t, "["+s+"]", names)
	}
	for _, s := range sample.Texts(`/^-b`, 4) {
		sameMatches(t, "["+s+"]", names)
	}
}

func TestAllBytes(t *testing.T) {
	var names []string
	for c := range 256 {
		names = append(names, string([]byte{byte(c)}))
	}
	for _, c := range names {
		for _, pattern := range []string{c, `\` + c, "[" + c + "]", `[\` + c + "]", "[!" + c + "]", `[^\` + c + "]", "[A-" + c + "]", "[" + c + "-a]", `[!\` + c + "-\xf0]", "?", "*", "**"} {
			sameMatches(t, pattern, names)
		}
	}
}

// drawn is a pattern of pieces, perhaps broken, that often matches names of the same letters.
func drawn(r *rand.Rand) string {
	all := []string{"*", "**", "?", "a", "b", "/", "[ab]", "[!a]", "[^-b]", "[a-c]", "[]-a]", `[a\-\]]`, `\a`, `\*`, "\x00", "\xff", "\u00e9", "[\x80-\xff]"}
	s := ""
	for range r.Intn(12) {
		s += all[min(r.Intn(len(all)), r.Intn(len(all)))]
	}
	if r.Intn(10) == 0 {
		s = s[:r.Intn(len(s)+1)]
	}
	return s
}

func TestDrawn(t *testing.T) {
	r := rand.New(rand.NewSource(6))
	all := []string{"a", "b", "a", "/", "c", "-", "]", "*", "\x00", "\xff", "\u00e9"}
	for range 5000 {
		var names []string
		for range 20 {
			name := ""
			for range r.Intn(20) {
				name += all[min(r.Intn(len(all)), r.Intn(len(all)))]
			}
			names = append(names, name)
		}
		sameMatches(t, drawn(r), names)
	}
}

// A matcher that tries one way after another would not end here.
func TestManyStars(t *testing.T) {
	name := repeat("a", mostBytes)
	for _, star := range []string{"*a", "**a", "*?", "**?", "*[a]"} {
		pattern := repeat(star, (mostBytes-1)/len(star))
		for end, want := range map[string]bool{"": true, "b": false, "*": true} {
			if got, err := glob.Match(pattern+end, name); err != nil || got != want {
				t.Errorf("Match(%q, 120 a) = %v, %v, want %v", pattern+end, got, err, want)
			}
		}
	}
}

func TestQuote(t *testing.T) {
	for name, want := range map[string]string{
		"":            "",
		"a":           "a",
		"a/b.c":       "a/b.c",
		"*":           `\*`,
		"?":           `\?`,
		"[":           `\[`,
		`\`:           `\\`,
		"]":           "]",
		"!^-]":        "!^-]",
		"**":          `\*\*`,
		`\*`:          `\\\*`,
		"[a-b]?":      `\[a-b]\?`,
		"a\x00\xff\n": "a\x00\xff\n",
	} {
		if got := glob.Quote(name); got != want {
			t.Errorf("Quote(%q) = %q, want %q", name, got, want)
		}
	}
	long := repeat("*", 1000)
	if got := glob.Quote(long); got != repeat(`\*`, 1000) {
		t.Errorf("Quote of 1000 stars has %d bytes", len(got))
	}
}

// A quoted name matches only itself.
func TestQuoted(t *testing.T) {
	names := sample.Texts(`*?[]\/a!`, 3)
	for c := range 256 {
		names = append(names, string([]byte{byte(c)}))
	}
	for _, name := range names {
		pattern := glob.Quote(name)
		want, ok := wantPattern(pattern)
		if !ok || !glob.Right(pattern) {
			t.Fatalf("Quote(%q) = %q is not a pattern", name, pattern)
		}
		if !want.MatchString(runes(name)) {
			t.Fatalf("Quote(%q) = %q does not match it", name, pattern)
		}
		for _, other := range names {
			got, err := glob.Match(pattern, other)
			if err != nil || got != (name == other) {
				t.Fatalf("Match(Quote(%q), %q) = %v, %v", name, other, got, err)
			}
		}
	}
}

func Example() {
	for _, name := range []string{"a.go", "b/a.go"} {
		one, _ := glob.Match("*.go", name)
		deep, _ := glob.Match("**.go", name)
		fmt.Println(name, one, deep)
	}
	fmt.Println(glob.Quote("[1]*.go"), glob.Right("[1"))
	// Output:
	// a.go true true
	// b/a.go false true
	// \[1]\*.go false
}

func FuzzMatch(f *testing.F) {
	f.Add("*.go", "a.go")
	f.Add(`[!]a-\]-]**\*`, "b/*")
	f.Add("[", "")
	f.Fuzz(func(t *testing.T, pattern, name string) {
		if len(pattern) <= mostBytes && len(name) <= mostBytes {
			sameMatches(t, pattern, []string{name, pattern, ""})
			return
		}
		ok, err := glob.Match(pattern, name)
		sameError(t, "Match", err, api.ErrLimit)
		if ok || glob.Right(pattern) && len(pattern) > mostBytes {
			t.Fatalf("Match or Right of %d and %d bytes is true", len(pattern), len(name))
		}
	})
}
