package mode_test

import (
	"fmt"
	"math"
	"math/big"
	"math/rand"
	"regexp"
	"strings"
	"testing"

	"revetment/api"
	"revetment/mode"
	"revetment/plain"
	"revetment/sample"
)

// bits are the twelve bits of a mode, 11 first: whose they are, and by which letter.
var bits = [12]struct{ who, letter string }{
	{"u", "s"}, {"g", "s"}, {"o", "t"},
	{"u", "r"}, {"u", "w"}, {"u", "x"},
	{"g", "r"}, {"g", "w"}, {"g", "x"},
	{"o", "r"}, {"o", "w"}, {"o", "x"},
}

// wantText looks each group of three up, by its bits and its special bit.
func wantText(m int) string {
	three := [8]string{"---", "--x", "-w-", "-wx", "r--", "r-x", "rw-", "rwx"}
	text := ""
	for i, special := range "sst" {
		group := three[(m>>(6-3*i))&7]
		if m&(1<<(11-i)) != 0 {
			group = strings.Replace(group, "x", string(special), 1)
			if group[2] == '-' {
				group = group[:2] + strings.ToUpper(string(special))
			}
		}
		text += group
	}
	return text
}

var (
	digits = regexp.MustCompile(`^[0-7]+$`)
	form   = regexp.MustCompile(`^[ugoa]*([-+=][rwxXst]*)+$`)
	action = regexp.MustCompile(`[-+=][rwxXst]*`)
)

// wantAction decides each bit by itself.
func wantAction(m int, who, action string, dir bool) int {
	letters := action[1:]
	if dir || m&0o111 != 0 {
		letters = strings.ReplaceAll(letters, "X", "x")
	}
	result := 0
	for i, b := range bits {
		bit := 1 << (11 - i)
		concerned := who == "" || strings.Contains(who, "a") || strings.Contains(who, b.who)
		named := strings.Contains(letters, b.letter)
		set := m&bit != 0
		switch {
		case !concerned:
		case action[0] == '=':
			set = named
		case named:
			set = action[0] == '+'
		}
		if set {
			result |= bit
		}
	}
	return result
}

func wantChange(m int, s string, dir bool) (int, api.Errno) {
	if m < 0 || m > 4095 {
		return 0, api.ErrRange
	}
	if digits.MatchString(s) {
		n, _ := new(big.Int).SetString(s, 8)
		if n.Cmp(big.NewInt(4095)) > 0 {
			return 0, api.ErrRange
		}
		return int(n.Int64()), api.OK
	}
	for _, part := range strings.Split(s, ",") {
		if !form.MatchString(part) {
			return 0, api.ErrForm
		}
		who := part[:strings.IndexAny(part, "+-=")]
		for _, a := range action.FindAllString(part, -1) {
			m = wantAction(m, who, a, dir)
		}
	}
	return m, api.OK
}

// sameMode wants a mode, or an error without a position and no mode.
func sameMode(t *testing.T, what string, got int, err error, want int, wantErr api.Errno) {
	t.Helper()
	if e, place := plain.Place(err); e != wantErr || place != -1 || got != want {
		t.Fatalf("%s = %o, error %v at %v, want %o, %v", what, got, e, place, want, wantErr)
	}
}

// sameChange holds a change against the reference.
func sameChange(t *testing.T, m int, s string, dir bool) {
	t.Helper()
	want, wantErr := wantChange(m, s, dir)
	got, err := mode.Change(m, s, dir)
	sameMode(t, fmt.Sprintf("Change(%o, %q, %v)", m, s, dir), got, err, want, wantErr)
}

func TestText(t *testing.T) {
	for m, want := range map[int]string{
		0:               "---------",
		0o777:           "rwxrwxrwx",
		0o644:           "rw-r--r--",
		0o755:           "rwxr-xr-x",
		0o421:           "r---w---x",
		0o5754:          "rwsr-xr-T",
		0o4000:          "--S------",
		0o2000:          "-----S---",
		0o1000:          "--------T",
		0o4100:          "--s------",
		0o2010:          "-----s---",
		0o1001:          "--------t",
		0o7000:          "--S--S--T",
		0o7777:          "rwsrwsrwt",
		0o4011:          "--S--x--x",
		0o2101:          "--x--S--x",
		0o1110:          "--x--x--T",
		0o7666:          "rwSrwSrwT",
		0o10000:         "---------",
		0o100644:        "rw-r--r--",
		0o105754:        "rwsr-xr-T",
		-1:              "rwsrwsrwt",
		-0o1000:         "--S--S--T",
		-0o10000:        "---------",
		math.MaxInt64:   "rwsrwsrwt",
		math.MinInt64:   "---------",
		math.MinInt + 1: "--------x",
	} {
		if got := mode.Text(m); got != want {
			t.Errorf("Text(%o) = %q, want %q", m, got, want)
		}
	}
}

func TestAllModes(t *testing.T) {
	texts := map[string]int{}
	for m := range 0o10000 {
		want := wantText(m)
		for _, other := range []int{m, m + 0o10000, m + 1<<40, m - 0o10000, m - 1<<62} {
			if got := mode.Text(other); got != want {
				t.Fatalf("Text(%o) = %q, want %q", other, got, want)
			}
		}
		got, err := mode.Parse(want)
		sameMode(t, fmt.Sprintf("Parse(%q)", want), got, err, m, api.OK)
		if other, twice := texts[want]; twice {
			t.Fatalf("%o and %o have the text %q", other, m, want)
		}
		texts[want] = m
	}
}

func TestParseInvalid(t *testing.T) {
	for _, s := range []string{
		"", "r", "rwx", "rwxrwxrw", "rwxrwxrwxr", "rwxrwxrwx-", "---------x", "-----------------", " rwxrwxrwx", "rwxrwxrwx ",
		"-rwxrwxrwx", "drwxr-xr-x", "rwxrwxrwx\x00", "rwxrwxrwx\n",
		"RWXRWXRWX", "Rwxrwxrwx", "rWxrwxrwx", "rwXrwxrwx",
		"wrxrwxrwx", "xwrrwxrwx", "rrrrrrrrr", "xxxxxxxxx", "sssssssss", "--------s", "--------S", "--t------", "--T------", "-----t---", "-----T---",
		"s--------", "-s-------", "S--------", "-S-------", "-------t-", "------T--", "---t-----", "---S-----",
		"755", "5754", "0", "rw-r--r-+", "rw-r--r-.", "rw_r__r__", "\xff--------", "--------\xff", "\u2010\u2010\u2010", "?????????",
	} {
		got, err := mode.Parse(s)
		sameMode(t, fmt.Sprintf("Parse(%q)", s), got, err, 0, api.ErrForm)
	}
}

// Each text with one byte in place of another, or without a byte, or with one more.
func TestParseChanged(t *testing.T) {
	texts := map[string]int{}
	for m := range 0o10000 {
		texts[wantText(m)] = m
	}
	same := func(s string) {
		want, ok := texts[s]
		wantErr := api.OK
		if !ok {
			wantErr = api.ErrForm
		}
		got, err := mode.Parse(s)
		sameMode(t, fmt.Sprintf("Parse(%q)", s), got, err, want, wantErr)
	}
	for text := range texts {
		for i := range 9 {
			for _, c := range "-rwxsStTX7" {
				same(text[:i] + string(c) + text[i+1:])
			}
			same(text[:i] + text[i+1:])
			same(text[:i] + "-" + text[i:])
			same(text[:i])
		}
		same(text + "x")
		same(text + text)
	}
	for i := range 9 {
		for c := range 256 {
			s := []byte("---------")
			s[i] = byte(c)
			same(string(s))
		}
	}
}

func TestChange(t *testing.T) {
	for _, c := range []struct {
		m    int
		s    string
		dir  bool
		want int
		err  api.Errno
	}{
		{0o644, "755", false, 0o755, api.OK},
		{0o644, "0", false, 0, api.OK},
		{0o644, "7777", false, 0o7777, api.OK},
		{0o644, "10000", false, 0, api.ErrRange},
		{0o644, "00000755", false, 0o755, api.OK},
		{0o644, "000000007777", true, 0o7777, api.OK},
		{0o644, "000000010000", false, 0, api.ErrRange},
		{0o644, strings.Repeat("0", 1000) + "7", false, 7, api.OK},
		{0o644, strings.Repeat("7", 1000), false, 0, api.ErrRange},
		{0o644, "2000000000000000000755", false, 0, api.ErrRange},
		{0o644, "1777777777777777777777", false, 0, api.ErrRange},
		{0o644, strings.Repeat("7", 1000) + "8", false, 0, api.ErrForm},
		{0o644, "8", false, 0, api.ErrForm},
		{0o644, "758", false, 0, api.ErrForm},
		{0o644, "0o755", false, 0, api.ErrForm},
		{0o644, "7_5", false, 0, api.ErrForm},
		{0o644, "+755", false, 0, api.ErrForm},
		{0o644, "-1", false, 0, api.ErrForm},
		{0o644, "=7", false, 0, api.ErrForm},
		{0o644, " 755", false, 0, api.ErrForm},
		{0o644, "755,755", false, 0, api.ErrForm},
		{0o644, "755,", false, 0, api.ErrForm},
		{0o644, "10000,", false, 0, api.ErrForm},
		{0o644, "u+x,755", false, 0, api.ErrForm},
		{0o644, "\u0667", false, 0, api.ErrForm},

		{0o644, "u+x", false, 0o744, api.OK},
		{0o644, "+x", false, 0o755, api.OK},
		{0o644, "a+x", false, 0o755, api.OK},
		{0o644, "go+w", false, 0o666, api.OK},
		{0o644, "ugo+x", false, 0o755, api.OK},
		{0o644, "uu+x", false, 0o744, api.OK},
		{0o644, "ua+x", false, 0o755, api.OK},
		{0o755, "o-rx", false, 0o750, api.OK},
		{0o755, "-x", false, 0o644, api.OK},
		{0o7777, "u-s", false, 0o3777, api.OK},
		{0o7777, "g-s", false, 0o5777, api.OK},
		{0o7777, "o-s", false, 0o7777, api.OK},
		{0o7777, "o-t", false, 0o6777, api.OK},
		{0o7777, "ug-t", false, 0o7777, api.OK},
		{0, "+s", false, 0o6000, api.OK},
		{0, "+t", false, 0o1000, api.OK},
		{0, "u+st", false, 0o4000, api.OK},
		{0, "g+st", false, 0o2000, api.OK},
		{0, "o+st", false, 0o1000, api.OK},
		{0, "+rwxXst", false, 0o7777, api.OK},
		{0, "+rrr", false, 0o444, api.OK},
		{0o7777, "u=", false, 0o3077, api.OK},
		{0o7777, "g=", false, 0o5707, api.OK},
		{0o7777, "o=", false, 0o6770, api.OK},
		{0o7777, "a=", false, 0, api.OK},
		{0o7777, "=", false, 0, api.OK},
		{0o7777, "u=rw", false, 0o3677, api.OK},
		{0o7777, "ug=r", false, 0o1447, api.OK},
		{0o4755, "u=rwxs", false, 0o4755, api.OK},
		{0o7777, "=rx", true, 0o555, api.OK},
		{0o754, "+", false, 0o754, api.OK},
		{0o754, "-", false, 0o754, api.OK},
		{0o754, "ugoa+", false, 0o754, api.OK},
		{0o754, "+-+-", false, 0o754, api.OK},

		{0o644, "+X", false, 0o644, api.OK},
		{0o644, "+X", true, 0o755, api.OK},
		{0o744, "+X", false, 0o755, api.OK},
		{0o654, "+X", false, 0o755, api.OK},
		{0o645, "+X", false, 0o755, api.OK},
		{0o7666, "+X", false, 0o7666, api.OK},
		{0o645, "u+X", false, 0o745, api.OK},
		{0o644, "u+X", true, 0o744, api.OK},
		{0o755, "-X", false, 0o644, api.OK},
		{0o644, "+xX", false, 0o755, api.OK},
		{0o755, "a=X", false, 0o111, api.OK},
		{0o644, "a=X", false, 0, api.OK},
		{0o644, "a=X", true, 0o111, api.OK},
		{0o644, "a=rX", true, 0o555, api.OK},
		{0o644, "u+x,g+X", false, 0o754, api.OK},
		{0o644, "g+X,u+x", false, 0o744, api.OK},
		{0o644, "u+x+X", false, 0o744, api.OK},
		{0o645, "u-x+X", false, 0o745, api.OK},
		{0o744, "u-x+X", false, 0o644, api.OK},
		{0o755, "-x+X", false, 0o644, api.OK},
		{0o755, "-x+X", true, 0o755, api.OK},
		{0o755, "=,+X", false, 0, api.OK},

		{0, "u=rwx,g=rx,o=r", false, 0o754, api.OK},
		{0, "u=rw+x-w", false, 0o500, api.OK},
		{0o777, "u-w=r+x", false, 0o577, api.OK},
		{0o700, "+w-w", false, 0o500, api.OK},
		{0o500, "-w+w", false, 0o722, api.OK},
		{0o777, "=+x", false, 0o111, api.OK},
		{0, "+r,", false, 0, api.ErrForm},
		{0, ",+r", false, 0, api.ErrForm},
		{0, "+r,,+r", false, 0, api.ErrForm},
		{0, ",", false, 0, api.ErrForm},
		{0, "", false, 0, api.ErrForm},
		{0, "", true, 0, api.ErrForm},
		{0, "u", false, 0, api.ErrForm},
		{0, "ugoa", false, 0, api.ErrForm},
		{0, "u,+x", false, 0, api.ErrForm},
		{0, "x", false, 0, api.ErrForm},
		{0, "ux", false, 0, api.ErrForm},
		{0, "rwx", false, 0, api.ErrForm},
		{0, "x+x", false, 0, api.ErrForm},
		{0, "u+q", false, 0, api.ErrForm},
		{0, "u+x+q", false, 0, api.ErrForm},
		{0, "u+xq", false, 0, api.ErrForm},
		{0, "u+xu", false, 0, api.ErrForm},
		{0, "u+g", false, 0, api.ErrForm},
		{0, "u+xg+x", false, 0, api.ErrForm},
		{0, "g=u", false, 0, api.ErrForm},
		{0, "+R", false, 0, api.ErrForm},
		{0, "+S", false, 0, api.ErrForm},
		{0, "U+x", false, 0, api.ErrForm},
		{0, "u +x", false, 0, api.ErrForm},
		{0, "u+ x", false, 0, api.ErrForm},
		{0, "u+x ", false, 0, api.ErrForm},
		{0, "u+7", false, 0, api.ErrForm},
		{0, "u+x, g+x", false, 0, api.ErrForm},
		{0, "u*x", false, 0, api.ErrForm},
		{0, "\xff", false, 0, api.ErrForm},
		{0, "+x\x00", false, 0, api.ErrForm},
		{0, "+\u00e9", false, 0, api.ErrForm},
		{0o777, "+x,q", false, 0, api.ErrForm},
		{0o777, "q,+x", false, 0, api.ErrForm},

		{-1, "755", false, 0, api.ErrRange},
		{0o10000, "755", false, 0, api.ErrRange},
		{0o10000, "+x", false, 0, api.ErrRange},
		{-1, "+x", true, 0, api.ErrRange},
		{-1, "q", false, 0, api.ErrRange},
		{0o10000, "", false, 0, api.ErrRange},
		{0o10000, "10000", false, 0, api.ErrRange},
		{math.MinInt, "0", false, 0, api.ErrRange},
		{math.MaxInt, "0", false, 0, api.ErrRange},
		{0o7777, "+x", false, 0o7777, api.OK},
		{0o7777, "0", false, 0, api.OK},
	} {
		got, err := mode.Change(c.m, c.s, c.dir)
		sameMode(t, fmt.Sprintf("Change(%o, %.40q, %v)", c.m, c.s, c.dir), got, err, c.want, c.err)
		sameChange(t, c.m, c.s, c.dir)
	}
}

// Every mode, by every who, sign and set of letters.
func TestAllActions(t *testing.T) {
	for _, who := range []string{"", "u", "g", "o", "a", "ug", "uo", "go", "ogu", "ao"} {
		for _, sign := range []string{"+", "-", "="} {
			for chosen := range 1 << 6 {
				s := who + sign
				for i := range 6 {
					if chosen>>i&1 == 1 {
						s += "rwxXst"[i : i+1]
					}
				}
				for m := chosen % 7; m < 0o10000; m += 7 {
					sameChange(t, m, s, m%2 == 0)
				}
			}
		}
	}
}

func TestAllChanges(t *testing.T) {
	for i, s := range sample.Texts("ua+=xXs,7", 5) {
		sameChange(t, i*37%0o10000, s, i%2 == 0)
	}
	for i, s := range sample.Texts("ugoa+-=rwxXst,07 q\xff", 3) {
		for _, m := range []int{0, 0o644, 0o5754, 0o7777, i * 41 % 0o10000} {
			sameChange(t, m, s, false)
			sameChange(t, m, s, true)
		}
	}
}

func TestAllNumbers(t *testing.T) {
	for n := range 0o20000 {
		for _, format := range []string{"%o", "%04o", "%012o", "%030o"} {
			sameChange(t, n%0o10000, fmt.Sprintf(format, n), n%2 == 0)
		}
	}
}

func TestAllBytes(t *testing.T) {
	for c := range 256 {
		for _, s := range []string{"%s", "%s+x", "+%s", "u%sx", "u+x%s", "75%s", "u+x%su+x"} {
			sameChange(t, 0o640, strings.Replace(s, "%s", string([]byte{byte(c)}), 1), false)
		}
	}
}

// drawn is a change of some parts, perhaps broken.
func drawn(r *rand.Rand) string {
	var parts []string
	for range 1 + r.Intn(4) {
		part := ""
		for range r.Intn(3) {
			part += "ugoa"[r.Intn(4):][:1]
		}
		for range 1 + r.Intn(3) {
			part += "+-="[r.Intn(3):][:1]
			for range r.Intn(4) {
				part += "rwxXst"[r.Intn(6):][:1]
			}
		}
		parts = append(parts, part)
	}
	s := []byte(strings.Join(parts, ","))
	if r.Intn(5) == 0 {
		s[r.Intn(len(s))] = "ugoa+-=rwxXst,07q"[r.Intn(17)]
	}
	return string(s)
}

func TestDrawn(t *testing.T) {
	r := rand.New(rand.NewSource(7))
	for range 50000 {
		sameChange(t, r.Intn(0o10000), drawn(r), r.Intn(2) == 0)
	}
}

// A change to the text of a mode leads to this mode, from every other.
func TestChangeToText(t *testing.T) {
	for m := range 0o10000 {
		text := mode.Text(m)
		letters := strings.NewReplacer("-", "", "S", "s", "T", "t", "s", "sx", "t", "tx")
		s := "u=" + letters.Replace(text[:3]) + ",g=" + letters.Replace(text[3:6]) + ",o=" + letters.Replace(text[6:])
		got, err := mode.Change(m*5%0o10000, s, false)
		sameMode(t, fmt.Sprintf("Change(_, %q)", s), got, err, m, api.OK)
	}
}

func Example() {
	m, _ := mode.Parse("rwsr-xr-T")
	fmt.Printf("%o\n", m)
	m, _ = mode.Change(m, "u-s,go=rX", false)
	fmt.Println(mode.Text(m))
	_, err := mode.Change(m, "u+q", false)
	fmt.Println(api.Tell(err) == api.ErrForm)
	// Output:
	// 5754
	// rwxr-xr-x
	// true
}

func FuzzChange(f *testing.F) {
	f.Add(0o644, "u+x,g=rX-w", false)
	f.Add(-1, "755", true)
	f.Add(0, ",", false)
	f.Fuzz(func(t *testing.T, m int, s string, dir bool) {
		sameChange(t, m, s, dir)
		if got := mode.Text(m); got != wantText(m) {
			t.Fatalf("Text(%o) = %q, want %q", m, got, wantText(m))
		}
		if got, err := mode.Parse(s); err == nil && wantText(got) != s {
			t.Fatalf("Parse(%q) = %o", s, got)
		}
	})
}
