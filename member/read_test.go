package member_test

import (
	"archive/tar"
	"bytes"
	"fmt"
	"math"
	"math/rand"
	"slices"
	"strings"
	"testing"
	"time"

	"revetment/api"
	"revetment/head"
	"revetment/hole"
	"revetment/member"
	"revetment/number"
	"revetment/pax"
	"revetment/plain"
	"revetment/stamp"
)

// result is what Read returns.
type result struct {
	e      api.Entry
	end    int
	global []api.Pair
	err    api.Errno
	place  int // -1: none
}

func fails(err api.Errno, place int) result { return result{err: err, place: place} }

func finds(e api.Entry, end int, global ...api.Pair) result {
	return result{e, end, global, api.OK, -1}
}

func sameRead(t *testing.T, what, s string, at int, global []api.Pair, want result) {
	t.Helper()
	e, end, now, err := member.Read(s, at, global)
	errno, place := plain.Place(err)
	got := result{e, end, now, errno, place}
	if !sameEntry(e, want.e) || end != want.end || !slices.Equal(now, want.global) || errno != want.err || place != want.place {
		t.Fatalf("%s: Read(%q, %d, %q) = %+v, want %+v", what, s, at, global, got, want)
	}
}

// oct and bin are numbers as fields of 12 bytes.
func oct(n int) string { return fmt.Sprintf("%011o\x00", n) }

func bin(n int) string {
	s, _ := number.Binary(n, 12)
	return s
}

// follows are the records of an extended header, or of another kind, and the header.
func follows(kind, data string) string {
	return header(api.Ustar, kind, "h", fields{124: oct(len(data))}) + filled(data)
}

func record(key, value string) string {
	s, err := pax.Record(api.Pair{Key: key, Value: value})
	if err != nil {
		panic(err)
	}
	return s
}

func pair(key, value string) api.Pair { return api.Pair{Key: key, Value: value} }

// plainFile is a member of one block, and what it is.
func plainFile(l ...fields) string { return header(api.Ustar, "0", "a", l...) }

// wantRead follows the requirement header by header; whatever is wrong is a panic.
func wantRead(s string, at int, global []api.Pair) (found result) {
	defer func() {
		if x := recover(); x != nil {
			found = x.(result)
		}
	}()
	if at < 0 || at > len(s) {
		return fails(api.ErrRange, -1)
	}
	rest, now := s[at:], slices.Clone(global)
	if rest == "" || strings.HasPrefix(rest, zeros(512)) {
		return fails(api.ErrNone, -1)
	}
	var own []api.Pair
	var names, links []string
	for {
		here := len(s) - len(rest)
		must := func(ok bool, err api.Errno) {
			if !ok {
				panic(fails(err, here))
			}
		}
		must(len(rest) >= 512 && !strings.HasPrefix(rest, zeros(512)), api.ErrForm)
		block := rest[:512]
		raw, _, err := head.Read(block)
		must(err == nil, api.Tell(err))
		rest = rest[512:]
		body := func(most int) string {
			must(raw.Size <= most, api.ErrLimit)
			must(raw.Size >= 0, api.ErrForm)
			whole := (raw.Size + 511) / 512 * 512
			must(whole <= len(rest), api.ErrForm)
			data := rest[:raw.Size]
			rest = rest[whole:]
			return data
		}
		switch raw.Kind {
		case 'L':
			names = strings.SplitN(body(4000), "\x00", 2)[:1]
		case 'K':
			links = strings.SplitN(body(4000), "\x00", 2)[:1]
		case 'x', 'g':
			l, err := pax.Read(body(4000))
			must(err == nil, api.Tell(err))
			if raw.Kind == 'x' {
				own = l
			} else {
				now = pax.Merge(now, l)
			}
		default:
			name, link := raw.Full(), raw.Link
			for _, s := range names {
				name = s
			}
			for _, s := range links {
				link = s
			}
			e := wantEntry(raw, name, link, pax.Merge(now, own), block, &rest, must, body)
			return finds(e, len(s)-len(rest), now...)
		}
	}
}

// digits is a number of 1 to 15 of them.
func digits(s string) (int, bool) {
	n := 0
	for _, c := range []byte(s) {
		if c < '0' || c > '9' || n >= 1e15 {
			return 0, false
		}
		n = 10*n + int(c-'0')
	}
	return n, s != "" && len(s) <= 15
}

// wantEntry is the member itself.
func wantEntry(raw head.Raw, name, link string, records []api.Pair, block string, rest *string, must func(bool, api.Errno), body func(int) string) api.Entry {
	own := map[string]string{"path": name, "linkpath": link, "uname": raw.User, "gname": raw.Group}
	for _, p := range records {
		own[p.Key] = p.Value
	}
	num := func(key string, n int) int {
		if s, ok := own[key]; ok {
			n, ok = digits(s)
			must(ok, api.ErrForm)
		}
		return n
	}
	e := api.Entry{Name: own["path"], Kind: raw.Kind, Mode: raw.Mode, Size: raw.Size, User: own["uname"], Group: own["gname"]}
	e.Gid = num("gid", raw.Gid)
	e.Time.Sec = raw.Time
	if s, ok := own["mtime"]; ok {
		when, err := stamp.Parse(s)
		must(err == nil, api.Tell(err))
		e.Time = when
	}
	e.Uid = num("uid", raw.Uid)
	isFile := is("07S", raw.Kind)
	if isFile {
		e.Kind = '0'
	}
	if raw.Kind == 'S' {
		wantHoles(&e, block, rest, must)
	}
	e.Data = body(4000 + 20*512)
	if isFile && own["GNU.sparse.major"] == "1" {
		wantLines(&e, own["GNU.sparse.realsize"], must)
	}
	if isFile && strings.HasSuffix(e.Name, "/") {
		e.Kind = '5'
	}
	for e.Kind == '5' && strings.HasSuffix(e.Name, "/") {
		e.Name = e.Name[:len(e.Name)-1]
	}
	if e.Kind != '0' {
		e.Size, e.Data, e.Map = 0, "", nil
	}
	if is(links, e.Kind) {
		e.Link = own["linkpath"]
	}
	if is(devices, e.Kind) {
		e.Major, e.Minor = raw.Major, raw.Minor
	}
	must(wantRight(e), api.ErrArg)
	return e
}

// wantHoles reads one list of pieces after another.
func wantHoles(e *api.Entry, block string, rest *string, must func(bool, api.Errno)) {
	num := func(s string) int {
		n, err := number.Read(s)
		must(err == nil, api.ErrRange)
		return n
	}
	list, more := block[386:482], block[482]
	e.Map = nil
	for first := true; ; first = false {
		for list != "" {
			p := api.Piece{At: num(list[:12]), Size: num(list[12:24])}
			list = list[24:]
			if p.Size == 0 {
				break
			}
			must(len(e.Map) < 20, api.ErrLimit)
			e.Map = append(e.Map, p)
		}
		if first {
			e.Size = num(block[483:495])
		}
		if more == 0 {
			return
		}
		must(len(*rest) >= 512, api.ErrForm)
		list, more = (*rest)[:504], (*rest)[504]
		*rest = (*rest)[512:]
	}
}

// wantLines takes the lines off the data.
func wantLines(e *api.Entry, size string, must func(bool, api.Errno)) {
	var ok bool
	e.Size, ok = digits(size)
	must(ok, api.ErrForm)
	lines := strings.Split(e.Data, "\n")
	line := func(i int) int {
		must(i < len(lines)-1, api.ErrForm) // nothing ends the last one
		n, ok := digits(lines[i])
		must(ok, api.ErrForm)
		return n
	}
	count := line(0)
	must(count <= 20, api.ErrLimit)
	e.Map = nil
	for i := range count {
		e.Map = append(e.Map, api.Piece{At: line(2*i + 1), Size: line(2*i + 2)})
	}
	used := len(strings.Join(lines[:2*count+1], "\n")) + 1
	used = (used + 511) / 512 * 512
	must(used <= len(e.Data), api.ErrForm)
	e.Data = e.Data[used:]
}

// tryRead holds Read against a result, and against the requirement.
func tryRead(t *testing.T, what, s string, at int, global []api.Pair, want result) {
	t.Helper()
	sameRead(t, what, s, at, global, want)
	sameRead(t, what, s, at, global, wantRead(s, at, global))
}

func TestReadRange(t *testing.T) {
	s := plainFile()
	for _, at := range []int{-1, -512, math.MinInt, 513, 1024, math.MaxInt} {
		tryRead(t, "outside", s, at, nil, fails(api.ErrRange, -1))
		tryRead(t, "outside", s, at, []api.Pair{pair("path", "b")}, fails(api.ErrRange, -1))
	}
	tryRead(t, "outside of nothing", "", 1, nil, fails(api.ErrRange, -1))
	tryRead(t, "outside of nothing", "", -1, nil, fails(api.ErrRange, -1))
}

func TestReadNone(t *testing.T) {
	global := []api.Pair{pair("path", "b")}
	for _, g := range [][]api.Pair{nil, global} {
		tryRead(t, "nothing", "", 0, g, fails(api.ErrNone, -1))
		tryRead(t, "the end", plainFile(), 512, g, fails(api.ErrNone, -1))
		tryRead(t, "the end, not of a block", "abc", 3, g, fails(api.ErrNone, -1))
		tryRead(t, "a zero block", zeros(512), 0, g, fails(api.ErrNone, -1))
		tryRead(t, "a zero block ahead", zeros(512)+plainFile(), 0, g, fails(api.ErrNone, -1))
		tryRead(t, "zero blocks behind", plainFile()+zeros(1024), 512, g, fails(api.ErrNone, -1))
		tryRead(t, "a zero block, not at a multiple", "abc"+zeros(513), 3, g, fails(api.ErrNone, -1))
	}
}

func TestReadIncomplete(t *testing.T) {
	s := plainFile()
	for _, n := range []int{1, 156, 511} {
		tryRead(t, "the first block is incomplete", s[:n], 0, nil, fails(api.ErrForm, 0))
		tryRead(t, "the first block is incomplete, farther on", "abc"+s[:n], 3, nil, fails(api.ErrForm, 3))
		tryRead(t, "the first block is incomplete, and zero", zeros(n), 0, nil, fails(api.ErrForm, 0))
		tryRead(t, "a later block is incomplete", follows("L", "b")+s[:n], 0, nil, fails(api.ErrForm, 1024))
		tryRead(t, "a later block is incomplete, and zero", "abc"+follows("x", "")+zeros(n), 3, nil, fails(api.ErrForm, 515))
	}
	for _, kind := range []string{"L", "K", "x", "g"} {
		for _, behind := range []string{"", zeros(512), zeros(512) + s, zeros(2048), s[:100]} {
			tryRead(t, "no later block", follows(kind, "")+behind, 0, nil, fails(api.ErrForm, 512))
			tryRead(t, "no later block, behind two", "ab"+follows("x", "")+follows(kind, "")+behind, 2, nil, fails(api.ErrForm, 1026))
		}
	}
}

func TestReadHeaderErrors(t *testing.T) {
	spoilt := "b" + plainFile()[1:]
	wrong := plainFile(fields{100: "9"})
	for _, c := range []struct {
		what, s string
		err     api.Errno
	}{
		{"a wrong sum", spoilt, api.ErrSpoilt},
		{"a wrong mode", wrong, api.ErrRange},
		{"a wrong size", plainFile(fields{124: "x"}), api.ErrRange},
		{"a wrong device", plainFile(fields{329: "x"}), api.ErrRange},
		{"a wrong number and a wrong sum", "b" + wrong[1:], api.ErrSpoilt},
		{"bytes", strings.Repeat("a", 512), api.ErrSpoilt},
	} {
		tryRead(t, c.what, c.s, 0, nil, fails(c.err, 0))
		tryRead(t, c.what, "abc"+c.s, 3, nil, fails(c.err, 3))
		tryRead(t, c.what, follows("L", "b")+c.s, 0, nil, fails(c.err, 1024))
		tryRead(t, c.what, "a"+follows("x", "")+follows("g", "")+c.s, 1, nil, fails(c.err, 1025))
	}
}

// TestReadAheadErrors: what stands ahead of a member.
func TestReadAheadErrors(t *testing.T) {
	big := strings.Repeat("b", 4096)
	e := least('0')
	for _, kind := range []string{"L", "K", "x", "g"} {
		for _, c := range []struct {
			what, size, behind string
			err                api.Errno
		}{
			{"too much", oct(4001), big, api.ErrLimit},
			{"too much, which is not there", oct(4001), "", api.ErrLimit},
			{"far too much", bin(math.MaxInt), big, api.ErrLimit},
			{"a negative size", bin(-1), big, api.ErrForm},
			{"a very negative size", bin(math.MinInt), big, api.ErrForm},
			{"nothing there", oct(1), "", api.ErrForm},
			{"not filled", oct(1), "b", api.ErrForm},
			{"not quite filled", oct(1), filled("b")[:511], api.ErrForm},
			{"a block too few", oct(513), big[:512], api.ErrForm},
			{"a byte too few", oct(4000), big[:4095], api.ErrForm},
			{"an incomplete block", oct(512), big[:511], api.ErrForm},
		} {
			s := header(api.Gnu, kind, "h", fields{124: c.size}) + c.behind
			tryRead(t, c.what, s, 0, nil, fails(c.err, 0))
			tryRead(t, c.what, "abc"+s, 3, nil, fails(c.err, 3))
			tryRead(t, c.what, follows("K", "b")+s, 0, nil, fails(c.err, 1024))
		}
	}
	all := strings.Repeat(record("a", strings.Repeat("v", 199)), 19)
	all += record("b", strings.Repeat("v", 80))
	if len(all) != 4000 {
		t.Fatal(len(all))
	}
	tryRead(t, "as much as there may be", follows("x", all)+plainFile(), 0, nil, finds(e, 512+4096+512))
	tryRead(t, "as much as there may be", follows("L", "b"+zeros(3999))+header(api.Ustar, "0", "c"), 0, nil, finds(named(e, "b"), 512+4096+512))
	tryRead(t, "as much as there may be", follows("L", big[:4000])+plainFile(), 0, nil, fails(api.ErrArg, 512+4096))
}

func named(e api.Entry, name string) api.Entry {
	e.Name = name
	return e
}

func TestReadRecordErrors(t *testing.T) {
	many := ""
	for i := range 21 {
		many += record(string(rune('a'+i)), "v")
	}
	for _, kind := range []string{"x", "g"} {
		for _, c := range []struct {
			what, data string
			err        api.Errno
		}{
			{"no record", "a", api.ErrForm},
			{"a zero byte", "\x00", api.ErrForm},
			{"a record and none", record("a", "b") + "x", api.ErrForm},
			{"a length that is not the smallest", "010 path=a\n", api.ErrForm},
			{"a cut record", record("a", "b")[:5], api.ErrForm},
			{"too long a record", "209 a=" + strings.Repeat("v", 202) + "\n", api.ErrForm},
			{"too many records", many, api.ErrLimit},
		} {
			s := follows(kind, c.data) + plainFile()
			tryRead(t, c.what, s, 0, nil, fails(c.err, 0))
			tryRead(t, c.what, "abc"+s, 3, nil, fails(c.err, 3))
			tryRead(t, c.what, follows("L", "b")+s, 0, nil, fails(c.err, 1024))
		}
		s := follows(kind, many[:len(many)-len(record("a", "v"))]) + plainFile()
		sameRead(t, "the most records", s, 0, nil, wantRead(s, 0, nil))
		if _, _, _, err := member.Read(s, 0, nil); err != nil {
			t.Errorf("the most records: %v", err)
		}
	}
}

func TestReadLong(t *testing.T) {
	name := strings.Repeat("n", 120)
	for _, c := range []struct {
		what, data, want string
	}{
		{"a long name", name + "\x00", name},
		{"one without a zero byte", "long", "long"},
		{"one that fills its block", "a/" + strings.Repeat("\x00", 510), "a/"},
		{"one with more behind it", "long\x00more\x00", "long"},
		{"one of other bytes", "\xff\x01\n", "\xff\x01\n"},
		{"an empty one", "", ""},
		{"one of a zero byte", "\x00long", ""},
		{"one that is too long", name + "n", name + "n"},
	} {
		dir, file, link := least('5'), least('0'), least('2')
		dir.Name, file.Name, link.Link = strings.TrimRight(c.want, "/"), c.want, c.want
		if strings.HasSuffix(c.want, "/") {
			file = dir
		}
		at := 512 + len(filled(c.data))
		for _, x := range []struct {
			kind, s string
			e       api.Entry
		}{
			{"L", header(api.Ustar, "0", "b"), file},
			{"L", header(api.Gnu, "5", "b"), dir},
			{"K", header(api.Gnu, "2", "a", fields{157: "x"}), link},
			{"K", header(api.V7, "2", "a"), link},
		} {
			want := finds(x.e, at+512)
			if !wantRight(x.e) {
				want = fails(api.ErrArg, at)
			}
			tryRead(t, c.what, follows(x.kind, c.data)+x.s, 0, nil, want)
			tryRead(t, c.what+", behind another one", "ab"+follows(x.kind, "other")+follows(x.kind, c.data)+x.s, 2, nil, wantRead("ab"+follows(x.kind, "other")+follows(x.kind, c.data)+x.s, 2, nil))
		}
	}
	e := least('2')
	e.Name, e.Link = "name", "link"
	s := header(api.Gnu, "2", "a", fields{157: "b"})
	tryRead(t, "both", follows("L", "name")+follows("K", "link")+s, 0, nil, finds(e, 2560))
	tryRead(t, "both", follows("K", "link")+follows("L", "name")+s, 0, nil, finds(e, 2560))
	tryRead(t, "the last ones count", follows("K", "k")+follows("L", "l")+follows("K", "link")+follows("L", "name")+s, 0, nil, finds(e, 4608))
	tryRead(t, "records count more", follows("x", record("path", "name")+record("linkpath", "link"))+follows("K", "k")+follows("L", "l")+s, 0, nil, finds(e, 3584))
	e.Kind, e.Link = '0', ""
	tryRead(t, "no link of a file", follows("L", "name")+follows("K", "link")+plainFile(), 0, nil, finds(e, 2560))
}

// TestReadRecords: which fields records set, of members of each kind.
func TestReadRecords(t *testing.T) {
	set := func(make func(e *api.Entry)) func(e *api.Entry) { return make }
	const form, limit, arg = api.ErrForm, api.ErrRange, api.ErrArg
	for _, c := range []struct {
		key, value string
		make       func(e *api.Entry)
		err        api.Errno
	}{
		{"path", "b/c", set(func(e *api.Entry) { e.Name = "b/c" }), 0},
		{"path", strings.Repeat("n", 121), nil, arg},
		{"path", "b\x00c", nil, arg},
		{"linkpath", "d", set(func(e *api.Entry) { e.Link = "d" }), 0},
		{"uname", "me", set(func(e *api.Entry) { e.User = "me" }), 0},
		{"uname", strings.Repeat("u", 33), nil, arg},
		{"gname", "us", set(func(e *api.Entry) { e.Group = "us" }), 0},
		{"gname", "\x00", nil, arg},
		{"mtime", "5", set(func(e *api.Entry) { e.Time = api.Time{Sec: 5} }), 0},
		{"mtime", "-0.5", set(func(e *api.Entry) { e.Time = api.Time{Sec: -1, Nano: 5e8} }), 0},
		{"mtime", "1099511627776", set(func(e *api.Entry) { e.Time = api.Time{Sec: 1 << 40} }), 0},
		{"mtime", "1099511627777", nil, limit},
		{"mtime", "1e5", nil, form},
		{"mtime", "a", nil, form},
		{"uid", "7", set(func(e *api.Entry) { e.Uid = 7 }), 0},
		{"uid", "000000000000007", set(func(e *api.Entry) { e.Uid = 7 }), 0},
		{"uid", "1099511627775", set(func(e *api.Entry) { e.Uid = 1<<40 - 1 }), 0},
		{"uid", "1099511627776", nil, arg},
		{"uid", "999999999999999", nil, arg},
		{"uid", "1000000000000000", nil, form},
		{"uid", "0000000000000007", nil, form},
		{"uid", "-1", nil, form},
		{"uid", "+1", nil, form},
		{"uid", "1 ", nil, form},
		{"uid", "1a1", nil, form},
		{"uid", "1.0", nil, form},
		{"uid", "9223372036854775808", nil, form},
		{"gid", "7", set(func(e *api.Entry) { e.Gid = 7 }), 0},
		{"gid", "1099511627775", set(func(e *api.Entry) { e.Gid = 1<<40 - 1 }), 0},
		{"gid", "1099511627776", nil, arg},
		{"gid", "1000000000000000", nil, form},
		{"gid", "a", nil, form},
		{"size", "7", set(func(e *api.Entry) {}), 0},
		{"size", "a", set(func(e *api.Entry) {}), 0},
		{"Path", "b", set(func(e *api.Entry) {}), 0},
		{"uid ", "x", set(func(e *api.Entry) {}), 0},
		{"mode", "x", set(func(e *api.Entry) {}), 0},
		{"devmajor", "9", set(func(e *api.Entry) {}), 0},
	} {
		for _, kind := range []byte(allKinds) {
			e := full(kind)
			s, err := member.Write(api.Ustar, e)
			if err != nil {
				t.Fatal(err)
			}
			what := fmt.Sprintf("%s=%s, the kind %q", c.key, c.value, kind)
			data := record(c.key, c.value)
			now := []api.Pair{pair(c.key, c.value)}
			if c.err == api.OK {
				c.make(&e)
				if !is(links, kind) {
					e.Link = ""
				}
				tryRead(t, what, follows("x", data)+s, 0, nil, finds(e, 1024+len(s)))
				tryRead(t, what, follows("g", data)+s, 0, nil, finds(e, 1024+len(s), now...))
				tryRead(t, what, s, 0, now, finds(e, len(s), now...))
				continue
			}
			tryRead(t, what, follows("x", data)+s, 0, nil, fails(c.err, 1024))
			tryRead(t, what, follows("g", data)+s, 0, nil, fails(c.err, 1024))
			tryRead(t, what, "abc"+s, 3, now, fails(c.err, 3))
		}
	}
}

// TestReadRecordOrder: the first record with an error, by their keys.
func TestReadRecordOrder(t *testing.T) {
	for _, c := range []struct {
		l    []api.Pair
		want api.Errno
	}{
		{[]api.Pair{pair("uid", "x"), pair("mtime", "9999999999999"), pair("gid", "7")}, api.ErrRange},
		{[]api.Pair{pair("uid", "x"), pair("mtime", "9999999999999"), pair("gid", "x")}, api.ErrForm},
		{[]api.Pair{pair("mtime", "9999999999999"), pair("gid", "x")}, api.ErrForm},
		{[]api.Pair{pair("mtime", "9999999999999"), pair("uid", "x")}, api.ErrRange},
		{[]api.Pair{pair("mtime", "x"), pair("path", "b/")}, api.ErrForm},
		{[]api.Pair{pair("mtime", "x"), pair("mtime", "9999999999999")}, api.ErrRange},
	} {
		data := ""
		for _, p := range c.l {
			data += record(p.Key, p.Value)
		}
		// Records are read ahead of the data, and these ahead of the kind.
		for _, s := range []string{plainFile(), plainFile(fields{124: oct(1)}), plainFile(fields{156: "Z"}), plainFile(fields{156: "S", 386: "x"})} {
			tryRead(t, fmt.Sprint(c.l), follows("x", data)+s, 0, nil, fails(c.want, 1024))
			tryRead(t, fmt.Sprint(c.l), s, 0, c.l, fails(c.want, 0))
		}
	}
}

// TestReadGlobal: which records count, and which ones count from then on.
func TestReadGlobal(t *testing.T) {
	user := func(user, group string) api.Entry {
		e := least('0')
		e.User, e.Group = user, group
		return e
	}
	s := plainFile(fields{265: "u", 297: "g"})
	u, g := record("uname", "v"), record("gname", "w")
	noUser := record("uname", "")
	given := []api.Pair{pair("z", "1"), pair("uname", "x"), pair("a", "")}
	tryRead(t, "given ones are kept as they are", s, 0, given, finds(user("x", "g"), 512, given...))
	tryRead(t, "the last given one counts", s, 0, []api.Pair{pair("uname", "x"), pair("uname", "y")}, finds(user("y", "g"), 512, pair("uname", "x"), pair("uname", "y")))
	tryRead(t, "an empty given one does not", s, 0, []api.Pair{pair("uname", "x"), pair("uname", "")}, finds(user("u", "g"), 512, pair("uname", "x"), pair("uname", "")))
	tryRead(t, "own ones count more", follows("x", u)+s, 0, given, finds(user("v", "g"), 1536, given...))
	tryRead(t, "an empty own one takes a given one away", follows("x", noUser)+s, 0, given, finds(user("u", "g"), 1024+512, given...))
	tryRead(t, "new ones are merged", follows("g", u)+s, 0, given, finds(user("v", "g"), 1536, pair("uname", "v"), pair("z", "1")))
	tryRead(t, "new ones are merged, even none", follows("g", "")+s, 0, given, finds(user("x", "g"), 1024, pair("uname", "x"), pair("z", "1")))
	tryRead(t, "an empty new one takes a given one away", follows("g", noUser)+s, 0, given, finds(user("u", "g"), 1536, pair("z", "1")))
	tryRead(t, "new ones, one after another", follows("g", u)+follows("g", g)+s, 0, nil, finds(user("v", "w"), 2560, pair("gname", "w"), pair("uname", "v")))
	tryRead(t, "new ones, the last counts", follows("g", u)+follows("g", record("uname", "y"))+s, 0, nil, finds(user("y", "g"), 2560, pair("uname", "y")))
	tryRead(t, "own ones are replaced", follows("x", u)+follows("x", g)+s, 0, nil, finds(user("u", "w"), 2560))
	tryRead(t, "own ones are replaced by none", follows("x", u)+follows("x", "")+s, 0, nil, finds(user("u", "g"), 2048))
	tryRead(t, "own ones behind new ones", follows("g", u)+follows("x", record("uname", "y"))+s, 0, nil, finds(user("y", "g"), 2560, pair("uname", "v")))
	tryRead(t, "own ones ahead of new ones", follows("x", record("uname", "y"))+follows("g", u)+s, 0, nil, finds(user("y", "g"), 2560, pair("uname", "v")))
	tryRead(t, "pairs that are not valid", s, 0, []api.Pair{pair("", "x"), pair("a=b", strings.Repeat("v", 300))}, finds(user("u", "g"), 512, pair("", "x"), pair("a=b", strings.Repeat("v", 300))))
}

func TestReadKeepsGlobal(t *testing.T) {
	given := []api.Pair{pair("z", "1"), pair("uname", "x"), pair("a", "b")}
	for _, s := range []string{plainFile(), follows("g", record("gname", "w")) + plainFile(), follows("x", record("gname", "w")) + plainFile()} {
		before := slices.Clone(given)
		_, _, now, err := member.Read(s, 0, given[:2])
		if err != nil || !slices.Equal(given, before) {
			t.Fatalf("Read changes its records: %v, %v", given, err)
		}
		for i := range now {
			now[i] = pair("changed", "v")
		}
		_ = append(now, pair("more", "v"))
		if !slices.Equal(given, before) {
			t.Fatalf("Read returns its own argument: %v", given)
		}
	}
}

// TestReadFields: the fields of a header, in each dialect.
func TestReadFields(t *testing.T) {
	for _, kind := range []byte(allKinds) {
		for _, d := range []int{api.V7, api.Ustar, api.Gnu} {
			e := full(kind)
			l := []fields{fullFields, {345: "front"}}
			if d == api.V7 {
				e.User, e.Group, e.Major, e.Minor = "", "", 0, 0
			}
			if d == api.Ustar {
				e.Name = "front/dir/name"
			}
			if is(links, kind) {
				l = append(l, fields{157: "dir/to"})
			}
			if is(devices, kind) && d != api.V7 {
				l = append(l, fields{329: "0000010\x000000021\x00"})
			}
			data := ""
			if kind == '0' {
				l, data = append(l, fields{124: oct(4)}), filled("data")
			}
			s := header(d, string(kind), "dir/name", l...) + data
			tryRead(t, fmt.Sprintf("dialect %d, kind %q", d, kind), s+"rest", 0, nil, finds(e, len(s)))
			tryRead(t, fmt.Sprintf("dialect %d, kind %q", d, kind), "abc"+s+plainFile(), 3, nil, finds(e, 3+len(s)))
		}
	}
}

func TestReadKinds(t *testing.T) {
	for kind := range 256 {
		for _, d := range []int{api.V7, api.Ustar, api.Gnu} {
			s := header(d, string([]byte{byte(kind)}), "a", fields{157: "b"})
			e, want := least(byte(kind)), fails(api.ErrArg, 5)
			if is("\x007S", byte(kind)) {
				e.Kind = '0'
			}
			if is(allKinds, e.Kind) {
				want = finds(e, 517)
			}
			if is("LKxg", byte(kind)) {
				want = fails(api.ErrForm, 517)
			}
			tryRead(t, fmt.Sprintf("the kind %q", byte(kind)), "12345"+s, 5, nil, want)
		}
	}
	old := plainFile(fields{156: "7", 124: oct(3)}) + filled("abc")
	tryRead(t, "the data of the kind 7", old, 0, nil, finds(file(3, "abc"), 1024))
	tryRead(t, "a directory of the kind 7", plainFile(fields{0: "a/", 156: "7"}), 0, nil, finds(least('5'), 512))
}

// TestReadSettles: what a kind of members does not have is left out.
func TestReadSettles(t *testing.T) {
	full := fields{157: "b", 329: "0000010\x000000021\x00", 124: oct(3)}
	for _, kind := range []byte(allKinds) {
		e := least(kind)
		if is(devices, kind) {
			e.Major, e.Minor = 8, 17
		}
		if kind == '0' {
			e.Data, e.Size = "abc", 3
		}
		s := header(api.Gnu, string(kind), "a", full) + filled("abc")
		tryRead(t, "all fields", s, 0, nil, finds(e, 1024))
		e.Kind = '5'
		for _, name := range []string{"a/", "a//", "a////"} {
			want := finds(least('5'), 1024)
			if kind != '0' && kind != '5' {
				want = fails(api.ErrArg, 0)
			}
			tryRead(t, "a slash", with(s, fields{0: name}), 0, nil, want)
			tryRead(t, "a slash of a record", follows("x", record("path", name))+s, 0, nil, shifted(want, 1024))
			tryRead(t, "a slash of a long name", follows("L", name)+s, 0, nil, shifted(want, 1024))
		}
		for _, name := range []string{"/", "//", "\x00"} {
			tryRead(t, "no name", with(s, fields{0: name}), 0, nil, fails(api.ErrArg, 0))
		}
	}
	tryRead(t, "a directory with slashes inside", header(api.Ustar, "5", "/a//b//"), 0, nil, finds(named(least('5'), "/a//b"), 512))
	tryRead(t, "a name that is too long with its slashes", follows("L", strings.Repeat("n", 120)+"///")+header(api.Gnu, "5", "a"), 0, nil, finds(named(least('5'), strings.Repeat("n", 120)), 1536))
	tryRead(t, "a directory's numbers", header(api.Ustar, "5", "a", fields{329: "7777777\x00"}), 0, nil, finds(least('5'), 512))
	tryRead(t, "a device's numbers", header(api.Gnu, "3", "a", fields{329: "\x80\x00\x00\x00\x00\x20\x00\x00"}), 0, nil, fails(api.ErrArg, 0))
	tryRead(t, "a directory's numbers", header(api.Gnu, "5", "a", fields{329: "\x80\x00\x00\x00\x00\x20\x00\x00"}), 0, nil, finds(least('5'), 512))
}

// shifted is what is found farther on.
func shifted(r result, by int) result {
	if r.err != api.OK {
		r.place += by
	} else {
		r.end += by
	}
	return r
}

// TestReadErrArg: members that are read but not valid.
func TestReadErrArg(t *testing.T) {
	for _, f := range []fields{
		{0: "\x00"},
		{100: "0010000\x00"},
		{100: "\xff\xff\xff\xff\xff\xff\xff\xff"},
		{108: "\xff\xff\xff\xff\xff\xff\xff\xff"},
		{116: "\x80\x00\x01\x00\x00\x00\x00\x00"},
		{136: "\x80\x00\x00\x00\x00\x00\x01\x00\x00\x00\x00\x01"},
		{156: "1"},
		{156: "2"},
		{156: "Z"},
		{265: "u\x00", 156: "M"},
		{345: "f", 0: strings.Repeat("n", 100), 156: "2"},
		{345: strings.Repeat("f", 20), 0: strings.Repeat("n", 100)},
	} {
		tryRead(t, fmt.Sprint(f), plainFile(f), 0, nil, fails(api.ErrArg, 0))
		tryRead(t, fmt.Sprint(f), follows("g", "")+plainFile(f), 0, nil, fails(api.ErrArg, 512))
	}
}

func TestReadData(t *testing.T) {
	big := strings.Repeat("b", 15000)
	for _, c := range []struct {
		what, size string
		behind     int
		want       int // bytes of the data
		err        api.Errno
	}{
		{"no data", oct(0), 0, 0, 0},
		{"a byte", oct(1), 512, 1, 0},
		{"a block", oct(512), 512, 512, 0},
		{"more than a block", oct(513), 1024, 513, 0},
		{"as much as there may be", oct(4000), 4096, 4000, 0},
		{"a byte more", oct(4001), 4096, 0, api.ErrArg},
		{"as much as is read", oct(14240), 14336, 0, api.ErrArg},
		{"as much as is read, which is not there", oct(14240), 14335, 0, api.ErrForm},
		{"more than is read", oct(14241), 14336, 0, api.ErrLimit},
		{"more than is read, which is not there", oct(14241), 0, 0, api.ErrLimit},
		{"far more", bin(math.MaxInt), 0, 0, api.ErrLimit},
		{"a negative size", bin(-1), 15000, 0, api.ErrForm},
		{"a very negative size", bin(math.MinInt), 15000, 0, api.ErrForm},
		{"nothing there", oct(1), 0, 0, api.ErrForm},
		{"not filled", oct(1), 1, 0, api.ErrForm},
		{"not quite filled", oct(1), 511, 0, api.ErrForm},
		{"a block too few", oct(513), 512, 0, api.ErrForm},
	} {
		for _, kind := range []byte(allKinds + "7S") {
			e := least(kind)
			f := fields{124: c.size}
			if is(links, kind) {
				f[157] = "b"
			}
			if is("07S", kind) {
				e = file(c.want, big[:c.want])
			}
			if kind == 'S' {
				f[483] = c.size // in one piece
				f[386] = oct(0) + c.size
				if c.want > 0 {
					e.Map = []api.Piece{{At: 0, Size: c.want}}
				}
			}
			s := "a" + header(api.Gnu, string(kind), "a", f) + big[:c.behind]
			want := finds(e, 513+(c.want+511)/512*512)
			if c.err != api.OK {
				want = fails(c.err, 1)
			}
			if c.err == api.ErrArg && is(noData, kind) {
				want = finds(e, len(s))
			}
			tryRead(t, fmt.Sprintf("%s, the kind %q", c.what, kind), s, 1, nil, want)
		}
	}
}

// sparse is a header of Gnu with pieces in it.
func sparse(size int, list string, more string, l ...fields) string {
	return header(api.Gnu, "S", "a", append([]fields{{386: list, 482: more, 483: oct(size)}}, l...)...)
}

// listed are pieces, each of them at a place and of a size, in turn.
func listed(numbers ...int) string {
	s := ""
	for _, n := range numbers {
		s += oct(n)
	}
	return s
}

// further is a block with more pieces.
func further(list, more string) string {
	return list + zeros(504-len(list)) + more + zeros(8-len(more))
}

func TestReadHoles(t *testing.T) {
	size := func(n int) fields { return fields{124: oct(n)} }
	four := listed(0, 1, 2, 1, 4, 1, 6, 1)
	for _, c := range []struct {
		what, s string
		e       api.Entry
		err     api.Errno
	}{
		{"no piece", sparse(7, "", ""), file(7, ""), 0},
		{"no piece and nothing else", sparse(0, "", ""), file(0, ""), 0},
		{"a piece", sparse(7, listed(2, 3), "", size(3)) + filled("abc"), file(7, "abc", 2, 3), 0},
		{"four pieces", sparse(8, four, "", size(4)) + filled("abcd"), file(8, "abcd", 0, 1, 2, 1, 4, 1, 6, 1), 0},
		{"five pieces", sparse(10, four, "\x01", size(5)) + further(listed(8, 2), "") + filled("abcde"), file(10, "abcde", 0, 1, 2, 1, 4, 1, 6, 1, 8, 2), api.ErrArg},
		{"five pieces", sparse(10, four, "\x01", size(6)) + further(listed(8, 2), "") + filled("abcdef"), file(10, "abcdef", 0, 1, 2, 1, 4, 1, 6, 1, 8, 2), 0},
		{"another byte for more", sparse(10, four, "\xff", size(6)) + further(listed(8, 2), "") + filled("abcdef"), file(10, "abcdef", 0, 1, 2, 1, 4, 1, 6, 1, 8, 2), 0},
		{"the digit 0 for more", sparse(10, four, "0", size(6)) + further(listed(8, 2), "") + filled("abcdef"), file(10, "abcdef", 0, 1, 2, 1, 4, 1, 6, 1, 8, 2), 0},
		{"none in the further block", sparse(8, four, "\x01", size(4)) + zeros(512) + filled("abcd"), file(8, "abcd", 0, 1, 2, 1, 4, 1, 6, 1), 0},
		{"all in the further block", sparse(8, "", "\x01", size(4)) + further(four, "") + filled("abcd"), file(8, "abcd", 0, 1, 2, 1, 4, 1, 6, 1), 0},
		{"all in the second further block", sparse(8, "", "\x01", size(4)) + further("", "\x01") + further(four, "") + filled("abcd"), file(8, "abcd", 0, 1, 2, 1, 4, 1, 6, 1), 0},
		{"some in each block", sparse(8, listed(0, 1), "\x01", size(4)) + further(listed(2, 1), "\x02") + further(listed(4, 1, 6, 1), "") + filled("abcd"), file(8, "abcd", 0, 1, 2, 1, 4, 1, 6, 1), 0},
		{"nothing is read behind a piece of size 0", sparse(7, listed(2, 3, 9, 0)+"junk", "", size(3)) + filled("abc"), file(7, "abc", 2, 3), 0},
		{"but the two numbers of this piece", sparse(7, listed(2, 3)+oct(9)[:11]+"x"+oct(0), "", size(3)) + filled("abc"), api.Entry{}, api.ErrRange},
		{"nothing is read behind it in a further block", sparse(7, "", "\x01", size(3)) + further(listed(2, 3, 9, 0)+"junk", "") + filled("abc"), file(7, "abc", 2, 3), 0},
		{"a wrong place in a further block", sparse(7, "", "\x01", size(3)) + further(listed(2, 3)+"junk", "") + filled("abc"), api.Entry{}, api.ErrRange},
		{"a wrong place", sparse(7, "x", "", size(3)) + filled("abc"), api.Entry{}, api.ErrRange},
		{"a wrong size of a piece", sparse(7, oct(2)+"9", "", size(3)) + filled("abc"), api.Entry{}, api.ErrRange},
		{"a wrong fourth piece", sparse(7, listed(0, 1, 2, 1, 4, 1, 6)+"9", "", size(3)) + filled("abc"), api.Entry{}, api.ErrRange},
		{"a wrong size", sparse(7, listed(2, 3), "", size(3), fields{483: "x"}) + filled("abc"), api.Entry{}, api.ErrRange},
		{"a missing block", sparse(7, listed(2, 3), "\x01", size(0)), api.Entry{}, api.ErrForm},
		{"an incomplete block", sparse(7, listed(2, 3), "\x01", size(0)) + zeros(511), api.Entry{}, api.ErrForm},
		{"a missing second block", sparse(7, listed(2, 3), "\x01", size(0)) + further("", "\x01"), api.Entry{}, api.ErrForm},
		{"missing data", sparse(7, listed(2, 3), "\x01", size(3)) + zeros(512), api.Entry{}, api.ErrForm},
		{"a wrong size ahead of a missing block", sparse(7, "", "\x01", fields{483: "x"}), api.Entry{}, api.ErrRange},
		{"a wrong piece ahead of missing data", sparse(7, "x", "", size(3)), api.Entry{}, api.ErrRange},
		{"a missing block ahead of too much data", sparse(7, "", "\x01", size(20000)), api.Entry{}, api.ErrForm},
		{"too much data", sparse(7, "", "", size(20000)), api.Entry{}, api.ErrLimit},
		{"a negative size", sparse(7, "", "", fields{483: bin(-7)}), api.Entry{}, api.ErrArg},
		{"too great a size", sparse(4001, "", ""), api.Entry{}, api.ErrArg},
		{"the greatest size", sparse(4000, "", ""), file(4000, ""), 0},
		{"a size in base 256", sparse(0, "", "", fields{483: bin(7)}), file(7, ""), 0},
		{"a piece in base 256", sparse(7, bin(2)+bin(3), "", size(3)) + filled("abc"), file(7, "abc", 2, 3), 0},
		{"a piece of negative size", sparse(7, oct(2)+bin(-3), "", size(3)) + filled("abc"), api.Entry{}, api.ErrArg},
		{"a piece at a negative place", sparse(7, bin(-1)+oct(3), "", size(3)) + filled("abc"), api.Entry{}, api.ErrArg},
		{"pieces that touch", sparse(7, listed(0, 1, 1, 2), "", size(3)) + filled("abc"), api.Entry{}, api.ErrArg},
		{"a piece behind the end", sparse(4, listed(2, 3), "", size(3)) + filled("abc"), api.Entry{}, api.ErrArg},
		{"pieces that are not the data", sparse(7, listed(2, 3), "", size(2)) + filled("ab"), api.Entry{}, api.ErrArg},
		{"all data and no pieces", sparse(3, "", "", size(3)) + filled("abc"), file(3, "abc"), 0},
		{"fewer data and no pieces", sparse(4, "", "", size(3)) + filled("abc"), api.Entry{}, api.ErrArg},
		{"a directory", sparse(7, listed(2, 3), "", size(3), fields{0: "a/"}) + filled("abc"), least('5'), 0},
		{"a directory with a wrong piece", sparse(7, "x", "", size(3), fields{0: "a/"}) + filled("abc"), api.Entry{}, api.ErrRange},
		{"a directory with pieces that are not valid", sparse(9999, listed(2, 3, 2, 3), "", size(3), fields{0: "a/"}) + filled("abc"), least('5'), 0},
		{"pieces of another kind", sparse(7, "x", "", size(3), fields{156: "0"}) + filled("abc"), file(3, "abc"), 0},
	} {
		want := finds(c.e, 2+len(c.s))
		if c.err != api.OK {
			want = fails(c.err, 2)
		}
		tryRead(t, c.what, "ab"+c.s, 2, nil, want)
	}
	// In another dialect the pieces are read, too.
	s := header(api.V7, "S", "a", fields{386: listed(2, 3), 483: oct(7), 124: oct(3)}) + filled("abc")
	tryRead(t, "V7", s, 0, nil, finds(file(7, "abc", 2, 3), 1024))
	tryRead(t, "Ustar", header(api.Ustar, "S", "a", fields{386: listed(2, 3), 483: oct(7), 124: oct(3)})+filled("abc"), 0, nil, finds(file(7, "abc", 2, 3), 1024))
}

// TestReadMostHoles: 20 pieces, and one more, in any blocks.
func TestReadMostHoles(t *testing.T) {
	for n := range 24 {
		e := apart(n)
		list := ""
		for _, p := range e.Map {
			list += listed(p.At, p.Size)
		}
		for first := range min(n, 4) + 1 {
			for _, end := range []string{"", listed(9, 0), "9"} {
				if len(list[24*first:]+end) > 504 {
					continue
				}
				f := fields{124: oct(n), 386: list[:24*first]}
				s := sparse(2*n, "", "\x01", f) + further(list[24*first:]+end, "") + filled(e.Data)
				want := finds(e, len(s))
				switch {
				case n > 20:
					want = fails(api.ErrLimit, 0)
				case end == "9":
					want = fails(api.ErrRange, 0)
				}
				tryRead(t, fmt.Sprint(n, " pieces, ", first, " of them first"), s, 0, nil, want)
			}
		}
	}
}

func TestReadLines(t *testing.T) {
	big := func(size string) []api.Pair {
		return []api.Pair{pair("GNU.sparse.major", "1"), pair("GNU.sparse.realsize", size)}
	}
	minor := append(big("7"), pair("GNU.sparse.minor", "9"))
	twenty, most := "20\n", apart(20)
	for _, p := range most.Map {
		twenty += fmt.Sprintf("%d\n%d\n", p.At, p.Size)
	}
	// The last number of these lines ends the block.
	filling, some := "16\n", apart(16)
	for i, p := range some.Map {
		filling += fmt.Sprintf("%015d\n%0*d\n", p.At, 15-i/15*2, p.Size)
	}
	filling = filling[:512]
	wide := "1\n" + strings.Repeat("0", 14) + "2\n" + strings.Repeat("0", 14) + "3\n"
	for _, c := range []struct {
		what    string
		records []api.Pair
		data    string
		e       api.Entry
		err     api.Errno
	}{
		{"a piece", big("7"), filled("1\n2\n3\n") + "abc", file(7, "abc", 2, 3), 0},
		{"another minor number", minor, filled("1\n2\n3\n") + "abc", file(7, "abc", 2, 3), 0},
		{"no piece", big("7"), filled("0\n"), file(7, ""), 0},
		{"no piece of nothing", big("0"), filled("0\n"), file(0, ""), 0},
		{"no piece and all data", big("3"), filled("0\n") + "abc", file(3, "abc"), 0},
		{"two pieces", big("4000"), filled("2\n1\n2\n3999\n1\n") + "abc", file(4000, "abc", 1, 2, 3999, 1), 0},
		{"20 pieces", big("40"), filled(twenty) + most.Data, most, 0},
		{"zeros ahead", big("000000000000007"), filled(wide) + "abc", file(7, "abc", 2, 3), 0},
		{"anything behind the lines", big("7"), "1\n2\n3\n" + strings.Repeat("x", 506) + "abc", file(7, "abc", 2, 3), 0},
		{"lines that fill a block", big("7"), "1\n2\n" + strings.Repeat("0", 12) + "3\n" + zeros(494) + "abc", file(7, "abc", 2, 3), 0},
		{"another major number", []api.Pair{pair("GNU.sparse.major", "01"), pair("GNU.sparse.realsize", "x")}, "abc", file(3, "abc"), 0},
		{"the major number 0", []api.Pair{pair("GNU.sparse.major", "0"), pair("GNU.sparse.realsize", "7")}, "abc", file(3, "abc"), 0},
		{"no major number", []api.Pair{pair("GNU.sparse.minor", "1"), pair("GNU.sparse.realsize", "7")}, "abc", file(3, "abc"), 0},
		{"no size", []api.Pair{pair("GNU.sparse.major", "1")}, filled("0\n"), api.Entry{}, api.ErrForm},
		{"a wrong size", big("x"), filled("0\n"), api.Entry{}, api.ErrForm},
		{"a negative size", big("-7"), filled("0\n"), api.Entry{}, api.ErrForm},
		{"too long a size", big("0000000000000007"), filled("0\n"), api.Entry{}, api.ErrForm},
		{"a wrong size ahead of too many pieces", big("x"), filled("21\n"), api.Entry{}, api.ErrForm},
		{"too great a size", big("4001"), filled("0\n"), api.Entry{}, api.ErrArg},
		{"the longest size", big("999999999999999"), filled("0\n"), api.Entry{}, api.ErrArg},
		{"no lines", big("7"), "", api.Entry{}, api.ErrForm},
		{"no end of the first line", big("7"), "0", api.Entry{}, api.ErrForm},
		{"an empty line", big("7"), filled("\n"), api.Entry{}, api.ErrForm},
		{"an empty line inside", big("7"), filled("1\n\n2\n3\n") + "abc", api.Entry{}, api.ErrForm},
		{"no number", big("7"), filled("a\n"), api.Entry{}, api.ErrForm},
		{"a space", big("7"), filled("1\n 2\n3\n") + "abc", api.Entry{}, api.ErrForm},
		{"a sign", big("7"), filled("1\n+2\n3\n") + "abc", api.Entry{}, api.ErrForm},
		{"a negative number of pieces", big("7"), filled("-1\n2\n3\n") + "abc", api.Entry{}, api.ErrForm},
		{"a carriage return", big("7"), filled("1\r\n2\r\n3\r\n") + "abc", api.Entry{}, api.ErrForm},
		{"too long a number", big("7"), filled("1\n0000000000000002\n3\n") + "abc", api.Entry{}, api.ErrForm},
		{"too long a first number", big("7"), filled("0000000000000021\n"), api.Entry{}, api.ErrForm},
		{"too few lines", big("7"), filled("2\n2\n3\n") + "abc", api.Entry{}, api.ErrForm},
		{"lines that fill a block, with their end", big("32"), filling[:499] + filling[500:] + "\n" + some.Data, some, 0},
		{"lines that fill a block, but for their end", big("32"), filling, api.Entry{}, api.ErrForm},
		{"half a piece", big("7"), filled("1\n2\n") + "abc", api.Entry{}, api.ErrForm},
		{"no end of the last line", big("7"), "1\n2\n3", api.Entry{}, api.ErrForm},
		{"too many pieces", big("7"), filled("21\n"), api.Entry{}, api.ErrLimit},
		{"too many pieces, and no block", big("7"), "21\n", api.Entry{}, api.ErrLimit},
		{"too many pieces, and a wrong line", big("7"), "21\nx\n", api.Entry{}, api.ErrLimit},
		{"far too many pieces", big("7"), filled("999999999999999\n"), api.Entry{}, api.ErrLimit},
		{"no end of the block", big("7"), "1\n2\n3\n", api.Entry{}, api.ErrForm},
		{"not quite the end of the block", big("7"), filled("0\n")[:511], api.Entry{}, api.ErrForm},
		{"a piece of size 0", big("7"), filled("1\n2\n0\n"), api.Entry{}, api.ErrArg},
		{"pieces that touch", big("7"), filled("2\n0\n1\n1\n2\n") + "abc", api.Entry{}, api.ErrArg},
		{"pieces that are not the data", big("7"), filled("1\n2\n3\n") + "ab", api.Entry{}, api.ErrArg},
		{"a piece behind the end", big("4"), filled("1\n2\n3\n") + "abc", api.Entry{}, api.ErrArg},
		{"as much data as there may be", big("4000"), filled("1\n0\n4000\n") + strings.Repeat("x", 4000), file(4000, strings.Repeat("x", 4000), 0, 4000), 0},
	} {
		s := "abc" + header(api.Ustar, "0", "a", fields{124: oct(len(c.data))}) + filled(c.data)
		want := finds(c.e, len(s), c.records...)
		if c.err != api.OK {
			want = fails(c.err, 3)
		}
		tryRead(t, c.what, s, 3, c.records, want)
		tryRead(t, c.what+", the kind 7", with(s[3:], fields{156: "7"}), 0, c.records, shifted(want, -3))
		dir := with(s[3:], fields{156: "5"})
		tryRead(t, c.what+", a directory", dir, 0, c.records, finds(least('5'), len(dir), c.records...))
		if c.err != api.ErrArg {
			if c.err == api.OK {
				want.e = least('5')
			}
			tryRead(t, c.what+", a file called as a directory", with(s[3:], fields{0: "a/"}), 0, c.records, shifted(want, -3))
		}
	}
	gone := append(big("7"), pair("GNU.sparse.major", ""))
	tryRead(t, "an empty major number", plainFile(), 0, gone, finds(least('0'), 512, gone...))
	tryRead(t, "its own major number", follows("x", record("GNU.sparse.major", ""))+plainFile(), 0, big("7"), finds(least('0'), 1536, big("7")...))
	own := follows("x", record("GNU.sparse.realsize", "9"))
	tryRead(t, "its own size", own+plainFile(fields{124: oct(512)})+filled("0\n"), 0, big("7"), finds(file(9, ""), 2048, big("7")...))
	both := sparse(5, listed(0, 1), "", fields{124: oct(515)}) + filled("1\n2\n3\n") + filled("abc")
	tryRead(t, "pieces and lines", both, 0, big("7"), finds(file(7, "abc", 2, 3), len(both), big("7")...))
	tryRead(t, "a wrong piece and lines", with(both, fields{386: "x"}), 0, big("7"), fails(api.ErrRange, 0))
}

// drawnRecords are of keys that set something, and others, most of them right.
func drawnRecords(r *rand.Rand) []api.Pair {
	var l []api.Pair
	for range pick(r, 0, 1, 1, 2, 3, 6, r.Intn(24)) {
		key := pick(r, "path", "linkpath", "uname", "gname", "mtime", "uid", "gid", "GNU.sparse.major", "GNU.sparse.realsize", "size", "z")
		value := pick(r, "", "1", "7", "a", "b/", "40", "1.5", "-3", "1099511627776", "x\x00", strings.Repeat("9", 14+r.Intn(3)), nameOf(r, 110+r.Intn(13)))
		if r.Intn(3) > 0 {
			switch key {
			case "path", "linkpath", "uname", "gname":
				value = pick(r, "a", "b/c", "d//", "/e")
			case "GNU.sparse.major":
				value = pick(r, "1", "1", "0", "")
			default:
				value = pick(r, "1", "7", "40", "512", "600")
			}
		}
		l = append(l, pair(key, value))
	}
	return l
}

// drawnAhead is a header that stands ahead of a member, with what belongs to it.
func drawnAhead(r *rand.Rand) string {
	kind := pick(r, "L", "K", "x", "g")
	data := pick(r, "a", "b/c\x00", "d/\x00\x00e", "", "\x00", nameOf(r, length(r)+r.Intn(2))+"\x00", strings.Repeat("f", 512))
	if kind == "x" || kind == "g" {
		data = ""
		for _, p := range drawnRecords(r) {
			data += record(p.Key, p.Value)
		}
		if r.Intn(30) == 0 {
			data += pick(r, "x", "5 a=", "\x00")
		}
	}
	s := follows(kind, data)
	if r.Intn(30) == 0 {
		s = with(s, fields{124: pick(r, oct(0), oct(1), oct(600), oct(4000), oct(4001), bin(-1), bin(1<<62))})
	}
	return s
}

// drawnPieces are lists of pieces, and the data of these.
func drawnPieces(r *rand.Rand) (fields, string, int) {
	at, sum := 0, 0
	list := func(room int) string {
		s := ""
		for range pick(r, 0, 1, room, r.Intn(room+1)) {
			at += pick(r, 1, 1, 3, 50) * pick(r, 1, 1, 1, 1, 1, 1, 0)
			n := pick(r, 1, 1, 2, 9, 60)
			if r.Intn(20) == 0 {
				n = pick(r, 0, 0, -1)
			}
			if n < 0 {
				s += oct(at) + bin(n)
			} else {
				s += oct(at) + pick(r, oct, oct, bin)(n)
			}
			at, sum = at+n, sum+max(n, 0)
		}
		if r.Intn(20) == 0 {
			s += pick(r, oct(1)+oct(0), "x", oct(9)+"8", strings.Repeat(" ", 24))
		}
		return s[:min(len(s), 24*room)]
	}
	f := fields{386: list(4)}
	blocks := ""
	more := pick(r, 0, 0, 1, 1, 2, 3)
	for i := range more {
		flag := "\x01"
		if i == more-1 {
			flag = "\x00"
		}
		s := list(pick(r, 1, 5, 21))
		blocks += further(s, flag)
	}
	if more > 0 {
		f[482] = "\x01"
	}
	size := at + pick(r, 0, 1, 100)
	f[483] = oct(max(size, 0))
	if r.Intn(20) == 0 {
		f[483] = pick(r, "x", bin(-1), oct(4001), bin(4000), oct(0))
	}
	return f, blocks, sum
}

// drawnMember is a header of a member, with what belongs to it.
func drawnMember(r *rand.Rand) string {
	kind := pick(r, "0", "0", "0", "S", "S", "7", "\x00", "1", "2", "3", "4", "5", "6", "Z")
	f := fields{100: pick(r, "0000644\x00", "0007777\x00"), 108: pick(r, "0000007\x00", "7777777\x00"), 265: pick(r, "", "user"), 345: pick(r, "", "", "front")}
	if r.Intn(4) > 0 || is(links, kind[0]) {
		f[157] = pick(r, "b", "c/", "d")
	}
	if r.Intn(3) == 0 {
		f[329] = "0000010\x000000021\x00"
	}
	blocks, size := "", pick(r, 0, 0, 0, 1, 40, 512, 600, 1112, r.Intn(4001))
	data := strings.Repeat("x", size)
	if kind == "S" {
		var own fields
		own, blocks, size = drawnPieces(r)
		for at, s := range own {
			f[at] = s
		}
		data = strings.Repeat("y", size)
	} else if r.Intn(2) == 0 {
		n := pick(r, 0, 1, 1, 2, 20, 21)
		lines, at := fmt.Sprintln(n), 0
		data = ""
		for range n {
			at += 1 + r.Intn(2)
			lines += fmt.Sprintf("%d\n%d\n", at, pick(r, 1, 1, 1, 1, 1, 1, 0))
			at, data = at+1, data+"z"
		}
		data = filled(lines[:len(lines)-pick(r, 0, 0, 0, 0, 1)]) + data
		size = len(data)
	}
	f[124] = oct(size)
	if r.Intn(30) == 0 {
		f[124] = pick(r, oct(0), oct(size+1), oct(size+600), oct(14240), oct(14241), bin(-1), bin(1<<62))
	}
	s := header(pick(r, api.V7, api.Ustar, api.Gnu), kind, pick(r, "a", "a", "dir/name", "a/", "a//"), f) + blocks
	return s + filled(data)
}

// TestReadDrawn holds Read against the requirement over drawn headers, which
// are cut, and changed here and there.
func TestReadDrawn(t *testing.T) {
	r := rand.New(rand.NewSource(23))
	counts := map[api.Errno]int{}
	for range 60000 {
		s := ""
		for range pick(r, 0, 0, 1, 1, 2, 4) {
			s += drawnAhead(r)
		}
		s += drawnMember(r)
		at := pick(r, 0, 0, 0, 1, 512)
		s = strings.Repeat("-", at) + s
		if r.Intn(10) == 0 {
			s = s[:r.Intn(len(s)+1)]
		} else {
			s += pick(r, "", "more", zeros(1024))
		}
		if r.Intn(8) == 0 && len(s) >= at+512 {
			i := at + r.Intn((len(s)-at)/512)*512
			b := []byte(s)
			b[i+r.Intn(512)] = pick(r, []byte("07 \x009a\x80\xff/LKxgS5\n")...)
			s = string(b[:i]) + pick(r, sealed(string(b[i:])), string(b[i:]))
		}
		var global []api.Pair
		if r.Intn(2) == 0 {
			global = drawnRecords(r)
		}
		want := wantRead(s, at, global)
		counts[want.err]++
		sameRead(t, "drawn", s, at, global, want)
	}
	for _, err := range []api.Errno{api.OK, api.ErrArg, api.ErrRange, api.ErrForm, api.ErrLimit, api.ErrSpoilt} {
		if counts[err] < 200 {
			t.Errorf("only %d of %v: %v", counts[err], err, counts)
		}
	}
}

// TestReadOfOthers reads what package archive/tar writes.
func TestReadOfOthers(t *testing.T) {
	r := rand.New(rand.NewSource(24))
	found := map[tar.Format]int{}
	for range 6000 {
		e := drawn(r)
		e.Name, e.Link = strings.ReplaceAll(e.Name, "\xe9", "m"), strings.ReplaceAll(e.Link, "\xe9", "m")
		e.Map, e.Size = nil, len(e.Data)
		format := pick(r, tar.FormatUSTAR, tar.FormatGNU, tar.FormatPAX)
		if format != tar.FormatPAX {
			e = plainer(r, e)
		}
		h := &tar.Header{
			Typeflag: e.Kind, Name: e.Name, Linkname: e.Link, Size: int64(e.Size), Mode: int64(e.Mode), Uid: e.Uid, Gid: e.Gid,
			Uname: e.User, Gname: e.Group, ModTime: time.Unix(int64(e.Time.Sec), int64(e.Time.Nano)),
			Devmajor: int64(e.Major), Devminor: int64(e.Minor), Format: format,
		}
		if e.Kind == '5' {
			h.Name += "/"
		}
		if format != tar.FormatPAX {
			e.Time.Nano = 0
			h.ModTime = time.Unix(int64(e.Time.Sec), 0)
		}
		var b bytes.Buffer
		w := tar.NewWriter(&b)
		if w.WriteHeader(h) != nil {
			continue
		}
		if _, err := w.Write([]byte(e.Data)); err != nil {
			t.Fatal(err)
		}
		if err := w.Flush(); err != nil {
			t.Fatal(err)
		}
		found[format]++
		sameRead(t, fmt.Sprint(format), b.String()+zeros(1024), 0, nil, finds(e, b.Len()))
	}
	if len(found) != 3 || found[tar.FormatUSTAR] < 200 {
		t.Error(found)
	}
}

// TestReadEvery takes every changed byte of a member: what is read is what the
// requirement says, and mostly that it is spoilt.
func TestReadEvery(t *testing.T) {
	e := apart(6)
	e.Name = strings.Repeat("n", 110)
	for _, d := range []int{api.Gnu, api.Pax} {
		s, err := member.Write(d, e)
		if err != nil {
			t.Fatal(err)
		}
		for i := range len(s) {
			for _, c := range []byte("\x00 07a\n\xff") {
				b := []byte(s)
				b[i] = c
				changed := string(b)
				sameRead(t, "a changed byte", changed, 0, nil, wantRead(changed, 0, nil))
			}
			if i%7 == 0 {
				sameRead(t, "cut", s[:i], 0, nil, wantRead(s[:i], 0, nil))
			}
		}
	}
}

func FuzzRead(f *testing.F) {
	for _, d := range dialects {
		for _, e := range []api.Entry{full('0'), least('5'), full('2'), apart(6), named(least('1'), strings.Repeat("n", 110))} {
			if s, err := member.Write(d, e); err == nil {
				f.Add(s, 0, "uname", "u", true)
			}
		}
	}
	f.Fuzz(func(t *testing.T, s string, at int, key, value string, seal bool) {
		for i := 0; seal && i+512 <= len(s); i += 512 {
			s = s[:i] + sealed(s[i:])
		}
		global := []api.Pair{pair(key, value)}
		want := wantRead(s, at, global)
		sameRead(t, "fuzz", s, at, global, want)
		if want.err != api.OK {
			return
		}
		for _, d := range dialects {
			tryWrite(t, d, want.e)
		}
		if data, err := hole.Put(want.e.Data, want.e.Map, want.e.Size); err == nil && len(data) != want.e.Size {
			t.Fatal(data)
		}
	})
}
