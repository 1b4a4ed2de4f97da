package member_test

import (
	"archive/tar"
	"fmt"
	"io"
	"math/rand"
	"slices"
	"strings"
	"testing"

	"revetment/api"
	"revetment/head"
	"revetment/hole"
	"revetment/member"
	"revetment/path"
	"revetment/plain"
	"revetment/stamp"
)

// fields are texts at places of a block.
type fields map[int]string

func zeros(n int) string { return strings.Repeat("\x00", n) }

// filled is s up to the end of a block.
func filled(s string) string { return s + zeros((512-len(s)%512)%512) }

// sealed has the sum of the header s in it.
func sealed(s string) string {
	sum := 8 * int(' ')
	for i, c := range []byte(s[:512]) {
		if i < 148 || i > 155 {
			sum += int(c)
		}
	}
	return s[:148] + fmt.Sprintf("%06o\x00 ", sum) + s[156:]
}

// with is s, which begins with a header, with other fields in it.
func with(s string, l ...fields) string {
	b := []byte(s)
	for _, f := range l {
		for at, text := range f {
			copy(b[at:], text)
		}
	}
	return sealed(string(b))
}

// header is one of a dialect, whose numbers are 0 but for the fields.
func header(dialect int, kind, name string, l ...fields) string {
	number := "0000000\x00"
	f := fields{0: name, 100: number, 108: number, 116: number, 124: "0000" + number, 136: "0000" + number, 156: kind}
	if dialect != api.V7 {
		f[257], f[329], f[337] = "ustar\x0000", number, number
	}
	if dialect == api.Gnu {
		f[257] = "ustar  \x00"
	}
	return with(zeros(512), append([]fields{f}, l...)...)
}

// Fields that are not 0, of a member that full returns.
var fullFields = fields{100: "0004755\x00", 108: "0001750\x00", 116: "0000144\x00", 136: "10000000000\x00", 265: "user", 297: "group"}

// ahead is a header of Gnu with a text that is too long for its field.
func ahead(kind, text string) string {
	size := fields{124: fmt.Sprintf("%011o\x00", len(text)+1)}
	return header(api.Gnu, kind, "././@LongLink", size) + filled(text+"\x00")
}

// records is an extended header with records in it.
func records(l ...string) string {
	s := strings.Join(l, "")
	return header(api.Pax, "x", "PaxHeader", fields{124: fmt.Sprintf("%011o\x00", len(s))}) + filled(s)
}

func sameWrite(t *testing.T, dialect int, e api.Entry, want string, wantErr api.Errno) {
	t.Helper()
	got, err := member.Write(dialect, e)
	if errno, place := plain.Place(err); got != want || errno != wantErr || place != -1 {
		t.Fatalf("Write(%d, %+v) = %q, error %v at %d, want %q, %v", dialect, e, got, errno, place, want, wantErr)
	}
}

// wantWrite lays out the headers of a member and its data.
func wantWrite(d int, e api.Entry) (string, api.Errno) {
	if d < 1 || d > 4 || !wantRight(e) {
		return "", api.ErrArg
	}
	raw := head.Raw{
		Name: e.Name, Link: e.Link, Kind: e.Kind, Mode: e.Mode, Uid: e.Uid, Gid: e.Gid, Size: len(e.Data), Time: e.Time.Sec,
		User: e.User, Group: e.Group, Major: e.Major, Minor: e.Minor,
	}
	if e.Kind == '5' {
		raw.Name += "/"
	}
	sparse := len(e.Map) > 0 || e.Size != len(e.Data)
	first, data := "", e.Data
	switch d {
	case 1, 2:
		if sparse || e.Time.Nano != 0 || d == 1 && is("346", e.Kind) {
			return "", api.ErrRange
		}
		if d == 1 && e.Kind == '5' {
			raw.Kind = '0'
		}
	case 3:
		if e.Time.Nano != 0 {
			return "", api.ErrRange
		}
		if len(raw.Link) > 100 {
			first, raw.Link = ahead("K", raw.Link), raw.Link[:100]
		}
		if len(raw.Name) > 100 {
			first, raw.Name = first+ahead("L", raw.Name), raw.Name[:100]
		}
		if sparse {
			raw.Kind = 'S'
		}
	case 4:
		first, data = wantRecords(e, &raw)
	}
	if d == 2 || d == 4 {
		var fits bool
		if raw.Front, raw.Name, fits = path.Split(raw.Name); !fits {
			return "", api.ErrRange
		}
	}
	s, err := head.Write(d, raw)
	if err != nil {
		return "", api.ErrRange
	}
	if d == 3 && sparse {
		s = wantPieces(s, e)
	}
	return first + s + filled(data), api.OK
}

// wantRecords is the extended header and what is in the place of the data; raw
// loses what stands there.
func wantRecords(e api.Entry, raw *head.Raw) (string, string) {
	var l []string
	data := e.Data
	add := func(key string, value any) {
		s := fmt.Sprintf(" %s=%v\n", key, value)
		n := len(s) + 1
		for len(fmt.Sprint(n))+len(s) != n {
			n++
		}
		l = append(l, fmt.Sprint(n, s))
	}
	if len(e.Map) > 0 || e.Size != len(e.Data) {
		add("GNU.sparse.major", 1)
		add("GNU.sparse.minor", 0)
		add("GNU.sparse.realsize", e.Size)
		lines := fmt.Sprintln(len(e.Map))
		for _, p := range e.Map {
			lines += fmt.Sprintf("%d\n%d\n", p.At, p.Size)
		}
		data = filled(lines) + data
		raw.Size = len(data)
	}
	if e.Gid >= 1<<21 {
		add("gid", e.Gid)
		raw.Gid = 0
	}
	if len(e.Link) > 100 {
		add("linkpath", e.Link)
		raw.Link = e.Link[:100]
	}
	kept := e.Time.Sec >= 0 && e.Time.Sec < 1<<33
	if !kept {
		raw.Time = 0
	}
	if !kept || e.Time.Nano > 0 {
		text, _ := stamp.Text(e.Time)
		add("mtime", text)
	}
	if _, _, fits := path.Split(raw.Name); !fits {
		add("path", raw.Name)
		raw.Name = "PaxName"
	}
	if e.Uid >= 1<<21 {
		add("uid", e.Uid)
		raw.Uid = 0
	}
	if len(l) == 0 {
		return "", data
	}
	return records(l...), data
}

// wantPieces puts all pieces, as if there was room for them in one place, into
// the header and one block behind it.
func wantPieces(s string, e api.Entry) string {
	all := ""
	for _, p := range e.Map {
		all += fmt.Sprintf("%011o\x00%011o\x00", p.At, p.Size)
	}
	f := fields{386: all[:min(len(all), 96)], 483: fmt.Sprintf("%011o\x00", e.Size)}
	if len(all) <= 96 {
		return with(s, f)
	}
	f[482] = "\x01"
	return with(s, f) + filled(all[96:])
}

// tryWrite holds Write against the requirement, and Read against what was written.
func tryWrite(t *testing.T, dialect int, e api.Entry) {
	t.Helper()
	want, errno := wantWrite(dialect, e)
	sameWrite(t, dialect, e, want, errno)
	if errno != api.OK {
		return
	}
	if len(want)%512 != 0 {
		t.Fatalf("Write(%d, %+v) has %d bytes", dialect, e, len(want))
	}
	got, end, global, err := member.Read("ab"+want+"rest", 2, nil)
	if err != nil || !sameEntry(got, e) || end != 2+len(want) || len(global) > 0 {
		t.Fatalf("Read of Write(%d, %+v) = %+v, %d, %v, %v", dialect, e, got, end, global, err)
	}
}

func TestWriteErrArg(t *testing.T) {
	nano := least('0')
	nano.Time.Nano = 1
	wrong := api.Entry{Name: "a/", Kind: '0', User: "u", Time: api.Time{Nano: 1}}
	for _, d := range noDialects {
		for _, e := range []api.Entry{least('0'), full('5'), apart(3), nano, wrong, {}} {
			sameWrite(t, d, e, "", api.ErrArg)
		}
	}
	for _, d := range dialects {
		sameWrite(t, d, api.Entry{}, "", api.ErrArg)
		sameWrite(t, d, wrong, "", api.ErrArg)
		sameWrite(t, d, apart(21), "", api.ErrArg)
		for kind := range 256 {
			e := least(byte(kind))
			tryWrite(t, d, e)
			if _, err := member.Write(d, e); !is(allKinds, e.Kind) != (api.Tell(err) == api.ErrArg) {
				t.Errorf("Write(%d) of the kind %q: %v", d, e.Kind, err)
			}
		}
	}
}

// TestWriteChanges: each change to a member of each kind, in each dialect.
func TestWriteChanges(t *testing.T) {
	for _, d := range dialects {
		for _, kind := range []byte(allKinds) {
			for _, c := range changes() {
				for _, e := range []api.Entry{least(kind), full(kind)} {
					c.make(&e)
					tryWrite(t, d, e)
				}
			}
		}
	}
}

func TestWriteV7(t *testing.T) {
	e := full('0')
	sameWrite(t, api.V7, e, "", api.ErrRange)
	e.User = ""
	sameWrite(t, api.V7, e, "", api.ErrRange)
	e.User, e.Group = "user", ""
	sameWrite(t, api.V7, e, "", api.ErrRange)
	e.User = ""
	own := fields{100: fullFields[100], 108: fullFields[108], 116: fullFields[116], 136: fullFields[136]}
	sameWrite(t, api.V7, e, header(api.V7, "0", "dir/name", own, fields{124: "00000000004\x00"})+filled("data"), api.OK)
	e.Kind, e.Data, e.Size = '5', "", 0
	sameWrite(t, api.V7, e, header(api.V7, "0", "dir/name/", own), api.OK)
	e.Link = "dir/to"
	for _, kind := range []byte(links) {
		e.Kind = kind
		sameWrite(t, api.V7, e, header(api.V7, string(kind), "dir/name", own, fields{157: "dir/to"}), api.OK)
	}
	for _, kind := range []byte("346") {
		sameWrite(t, api.V7, least(kind), "", api.ErrRange)
	}
}

func TestWriteUstar(t *testing.T) {
	sameWrite(t, api.Ustar, full('0'), header(api.Ustar, "0", "dir/name", fullFields, fields{124: "00000000004\x00"})+filled("data"), api.OK)
	sameWrite(t, api.Ustar, least('0'), header(api.Ustar, "0", "a"), api.OK)
	sameWrite(t, api.Ustar, least('5'), header(api.Ustar, "5", "a/"), api.OK)
	sameWrite(t, api.Ustar, full('5'), header(api.Ustar, "5", "dir/name/", fullFields), api.OK)
	sameWrite(t, api.Ustar, full('6'), header(api.Ustar, "6", "dir/name", fullFields), api.OK)
	for _, kind := range []byte(links) {
		sameWrite(t, api.Ustar, full(kind), header(api.Ustar, string(kind), "dir/name", fullFields, fields{157: "dir/to"}), api.OK)
	}
	for _, kind := range []byte(devices) {
		sameWrite(t, api.Ustar, full(kind), header(api.Ustar, string(kind), "dir/name", fullFields, fields{329: "0000010\x00", 337: "0000021\x00"}), api.OK)
	}
	front, name := strings.Repeat("f", 19), strings.Repeat("n", 100)
	e := least('0')
	e.Name = front + "/" + name
	sameWrite(t, api.Ustar, e, header(api.Ustar, "0", name, fields{345: front}), api.OK)
	e.Kind, e.Name = '5', front+"/"+name[1:]
	sameWrite(t, api.Ustar, e, header(api.Ustar, "5", name[1:]+"/", fields{345: front}), api.OK)
}

// TestWriteOldErrors: what neither V7 nor Ustar has room for.
func TestWriteOldErrors(t *testing.T) {
	name := strings.Repeat("n", 100)
	for _, d := range []int{api.V7, api.Ustar} {
		sameWrite(t, d, apart(1), "", api.ErrRange)
		sameWrite(t, d, file(3, "abc", 0, 3), "", api.ErrRange)
		sameWrite(t, d, file(1, ""), "", api.ErrRange)
		for _, c := range []struct {
			make func(e *api.Entry)
			want string // the kinds for which it is possible
		}{
			{func(e *api.Entry) { e.Time.Nano = 1 }, ""},
			{func(e *api.Entry) { e.Time.Nano = 999999999 }, ""},
			{func(e *api.Entry) { e.Time.Sec = -1 }, ""},
			{func(e *api.Entry) { e.Time.Sec = 1<<33 - 1 }, allKinds},
			{func(e *api.Entry) { e.Time.Sec = 1 << 33 }, ""},
			{func(e *api.Entry) { e.Uid, e.Gid = 1<<21-1, 1<<21-1 }, allKinds},
			{func(e *api.Entry) { e.Uid = 1 << 21 }, ""},
			{func(e *api.Entry) { e.Gid = 1 << 21 }, ""},
			{func(e *api.Entry) { e.Name = name[1:] }, allKinds},
			{func(e *api.Entry) { e.Name = name }, "012346"},
			{func(e *api.Entry) { e.Name = name + "n" }, ""},
			{func(e *api.Entry) { e.Name = "n/" + name + "n" }, ""},
			{func(e *api.Entry) { e.Link = name }, links},
			{func(e *api.Entry) { e.Link = "l/" + name }, ""},
		} {
			for _, kind := range []byte(allKinds) {
				e := least(kind)
				c.make(&e)
				if !member.Right(e) {
					continue
				}
				want := is(c.want, kind) && (d == api.Ustar || !is("346", kind))
				if s, err := member.Write(d, e); want != (err == nil) || err != nil && (err != api.ErrRange || s != "") {
					t.Errorf("Write(%d, %+v) = %q, %v", d, e, s, err)
				}
			}
		}
	}
}

func TestWriteGnu(t *testing.T) {
	for _, kind := range []byte("056") {
		e := full(kind)
		name, size := "dir/name", fields{}
		if kind == '5' {
			name += "/"
		}
		if kind == '0' {
			size[124] = "00000000004\x00"
		}
		sameWrite(t, api.Gnu, e, header(api.Gnu, string(kind), name, fullFields, size)+filled(e.Data), api.OK)
		e.Time.Nano = 1
		sameWrite(t, api.Gnu, e, "", api.ErrRange)
	}
	e := least('3')
	e.Uid, e.Time.Sec, e.Major = 1<<40-1, -2, 1<<21-1
	sameWrite(t, api.Gnu, e, header(api.Gnu, "3", "a", fields{
		108: "\x80\x00\x00\xff\xff\xff\xff\xff", 136: strings.Repeat("\xff", 11) + "\xfe", 329: "7777777\x00",
	}), api.OK)
}

func TestWriteGnuLong(t *testing.T) {
	for _, n := range []int{99, 100, 101, 120} {
		name, link := strings.Repeat("n", n), strings.Repeat("l", n)
		cut := min(n, 100)
		aheadName, aheadLink, aheadDir := ahead("L", name), ahead("K", link), ahead("L", name+"/")
		if n <= 100 {
			aheadName, aheadLink = "", ""
		}
		dir := name + "/"
		if n < 100 {
			aheadDir = ""
		}
		e := least('0')
		e.Name, e.Data, e.Size = name, "data", 4
		size := fields{124: "00000000004\x00"}
		sameWrite(t, api.Gnu, e, aheadName+header(api.Gnu, "0", name[:cut], size)+filled("data"), api.OK)
		e = least('5')
		e.Name = name
		sameWrite(t, api.Gnu, e, aheadDir+header(api.Gnu, "5", dir[:min(len(dir), 100)]), api.OK)
		for _, kind := range []byte(links) {
			e = least(kind)
			e.Link = link
			sameWrite(t, api.Gnu, e, aheadLink+header(api.Gnu, string(kind), "a", fields{157: link[:cut]}), api.OK)
			e.Name = name
			sameWrite(t, api.Gnu, e, aheadLink+aheadName+header(api.Gnu, string(kind), name[:cut], fields{157: link[:cut]}), api.OK)
		}
	}
}

func TestWriteGnuHoles(t *testing.T) {
	e := file(4000, "abc", 1, 2, 3999, 1)
	e.User = "user"
	sameWrite(t, api.Gnu, e, header(api.Gnu, "S", "a", fields{
		124: "00000000003\x00", 265: "user", 386: "00000000001\x0000000000002\x0000000007637\x0000000000001\x00", 483: "00000007640\x00",
	})+filled("abc"), api.OK)
	sameWrite(t, api.Gnu, file(7, ""), header(api.Gnu, "S", "a", fields{483: "00000000007\x00"}), api.OK)
	sameWrite(t, api.Gnu, file(3, "abc", 0, 3), header(api.Gnu, "S", "a", fields{
		124: "00000000003\x00", 386: "00000000000\x0000000000003\x00", 483: "00000000003\x00",
	})+filled("abc"), api.OK)

	list := ""
	for i := range 20 {
		list += fmt.Sprintf("%011o\x0000000000001\x00", 2*i)
	}
	for n := range 21 {
		e := apart(n)
		f := fields{124: fmt.Sprintf("%011o\x00", n), 386: list[:24*min(n, 4)], 483: fmt.Sprintf("%011o\x00", 2*n)}
		behind := ""
		if n > 4 {
			f[482] = "\x01"
			behind = filled(list[96 : 24*n])
		}
		kind := "S"
		if n == 0 {
			kind, f = "0", fields{}
		}
		sameWrite(t, api.Gnu, e, header(api.Gnu, kind, "a", f)+behind+filled(e.Data), api.OK)
	}
	e.Name = strings.Repeat("n", 101)
	e.Time.Nano = 1
	sameWrite(t, api.Gnu, e, "", api.ErrRange)
	e.Time.Nano = 0
	tryWrite(t, api.Gnu, e)
}

func TestWritePax(t *testing.T) {
	name, link := strings.Repeat("n", 101), strings.Repeat("l", 120)
	for _, c := range []struct {
		kind  byte
		make  func(e *api.Entry)
		ahead string
		name  string
		f     fields
	}{
		{'0', func(e *api.Entry) {}, "", "a", nil},
		{'5', func(e *api.Entry) {}, "", "a/", nil},
		{'3', func(e *api.Entry) { e.Major, e.Minor = 8, 17 }, "", "a", fields{329: "0000010\x00", 337: "0000021\x00"}},
		{'0', func(e *api.Entry) { e.Uid, e.Gid = 1<<21-1, 1<<21-1 }, "", "a", fields{108: "7777777\x007777777\x00"}},
		{'0', func(e *api.Entry) { e.Uid = 1 << 21 }, records("15 uid=2097152\n"), "a", nil},
		{'0', func(e *api.Entry) { e.Gid = 1<<40 - 1 }, records("21 gid=1099511627775\n"), "a", nil},
		{'0', func(e *api.Entry) { e.Uid, e.Gid = 1<<21, 1<<21 }, records("15 gid=2097152\n", "15 uid=2097152\n"), "a", nil},
		{'0', func(e *api.Entry) { e.Time = api.Time{Sec: 7} }, "", "a", fields{136: "00000000007\x00"}},
		{'0', func(e *api.Entry) { e.Time = api.Time{Sec: 7, Nano: 5e8} }, records("13 mtime=7.5\n"), "a", fields{136: "00000000007\x00"}},
		{'0', func(e *api.Entry) { e.Time = api.Time{Nano: 1} }, records("21 mtime=0.000000001\n"), "a", nil},
		{'0', func(e *api.Entry) { e.Time = api.Time{Sec: 1<<33 - 1} }, "", "a", fields{136: "77777777777\x00"}},
		{'0', func(e *api.Entry) { e.Time = api.Time{Sec: 1<<33 - 1, Nano: 1e8} }, records("22 mtime=8589934591.1\n"), "a", fields{136: "77777777777\x00"}},
		{'0', func(e *api.Entry) { e.Time = api.Time{Sec: 1 << 33} }, records("20 mtime=8589934592\n"), "a", nil},
		{'0', func(e *api.Entry) { e.Time = api.Time{Sec: -1} }, records("12 mtime=-1\n"), "a", nil},
		{'0', func(e *api.Entry) { e.Time = api.Time{Sec: -1, Nano: 5e8} }, records("14 mtime=-0.5\n"), "a", nil},
		{'0', func(e *api.Entry) { e.Name = name[1:] }, "", name[1:], nil},
		{'0', func(e *api.Entry) { e.Name = name }, records("111 path=" + name + "\n"), "PaxName", nil},
		{'5', func(e *api.Entry) { e.Name = name[2:] }, "", name[2:] + "/", nil},
		{'5', func(e *api.Entry) { e.Name = name[1:] }, records("111 path=" + name[1:] + "/\n"), "PaxName", nil},
		{'5', func(e *api.Entry) { e.Name = "f/" + name[2:] }, "", name[2:] + "/", fields{345: "f"}},
		{'0', func(e *api.Entry) { e.Name = "f/" + name[1:] }, "", name[1:], fields{345: "f"}},
		{'5', func(e *api.Entry) { e.Name = "f/" + name[1:] }, records("113 path=f/" + name[1:] + "/\n"), "PaxName", nil},
		{'1', func(e *api.Entry) { e.Link = link[20:] }, "", "a", fields{157: link[20:]}},
		{'1', func(e *api.Entry) { e.Link = link[19:] }, records("115 linkpath=" + link[19:] + "\n"), "a", fields{157: link[20:]}},
		{'2', func(e *api.Entry) { e.Link = "l/" + link[2:] }, records("134 linkpath=l/" + link[2:] + "\n"), "a", fields{157: "l/" + link[22:]}},
		{'2', func(e *api.Entry) {
			e.Name, e.Link, e.Uid, e.Gid, e.Time = name, link, 1<<21, 1<<22, api.Time{Sec: 1 << 40, Nano: 0}
		}, records("15 gid=4194304\n", "134 linkpath="+link+"\n", "23 mtime=1099511627776\n", "111 path="+name+"\n", "15 uid=2097152\n"),
			"PaxName", fields{157: link[20:]}},
	} {
		e := least(c.kind)
		own := fields{156: string(c.kind)}
		if is(links, c.kind) {
			own[157] = "b"
		}
		c.make(&e)
		sameWrite(t, api.Pax, e, c.ahead+header(api.Pax, "", c.name, own, c.f), api.OK)
		tryWrite(t, api.Pax, e)
	}
	sameWrite(t, api.Pax, full('0'), header(api.Pax, "0", "dir/name", fullFields, fields{124: "00000000004\x00"})+filled("data"), api.OK)
}

func TestWritePaxHoles(t *testing.T) {
	major := "22 GNU.sparse.major=1\n22 GNU.sparse.minor=0\n"
	e := file(4000, "abc", 1, 2, 3999, 1)
	sameWrite(t, api.Pax, e, records(major+"28 GNU.sparse.realsize=4000\n")+
		header(api.Pax, "0", "a", fields{124: "00000001003\x00"})+filled("2\n1\n2\n3999\n1\n")+filled("abc"), api.OK)
	sameWrite(t, api.Pax, file(7, ""), records(major+"25 GNU.sparse.realsize=7\n")+
		header(api.Pax, "0", "a", fields{124: "00000001000\x00"})+filled("0\n"), api.OK)
	e = apart(20)
	e.Gid, e.Time.Nano, e.Name = 1<<21, 1, strings.Repeat("n", 120)
	lines := "20\n"
	for i := range 20 {
		lines += fmt.Sprintf("%d\n1\n", 2*i)
	}
	sameWrite(t, api.Pax, e, records(major+"26 GNU.sparse.realsize=40\n", "15 gid=2097152\n", "21 mtime=0.000000001\n", "130 path="+e.Name+"\n")+
		header(api.Pax, "0", "PaxName", fields{124: "00000001024\x00"})+filled(lines)+filled(e.Data), api.OK)
}

// TestWriteDrawn: whatever is written is read again, and Pax writes every member.
func TestWriteDrawn(t *testing.T) {
	r := rand.New(rand.NewSource(21))
	written := map[int]int{}
	for range 8000 {
		e := drawn(r)
		if _, err := member.Write(api.Pax, e); err != nil {
			t.Fatalf("Pax does not write %+v: %v", e, err)
		}
		tryWrite(t, api.Pax, e)
		for _, d := range dialects[:3] {
			e := plainer(r, e)
			tryWrite(t, d, e)
			if _, err := member.Write(d, e); err == nil {
				written[d]++
			}
		}
	}
	for _, d := range dialects[:3] {
		if written[d] < 500 {
			t.Errorf("dialect %d: only %d members are written", d, written[d])
		}
	}
}

func TestWriteKeepsMap(t *testing.T) {
	for _, d := range dialects {
		e := apart(7)
		before := slices.Clone(e.Map)
		spare := append(e.Map, api.Piece{At: 77, Size: 77})
		if _, err := member.Write(d, e); err != nil && api.Tell(err) != api.ErrRange {
			t.Fatal(err)
		}
		if !slices.Equal(e.Map, before) || spare[7] != (api.Piece{At: 77, Size: 77}) {
			t.Errorf("Write(%d) changes the map", d)
		}
	}
}

// TestWrittenForOthers lets package archive/tar read what was written.
func TestWrittenForOthers(t *testing.T) {
	r := rand.New(rand.NewSource(22))
	for range 6000 {
		e, d := drawn(r), pick(r, dialects...)
		if d != api.Pax {
			e = plainer(r, e)
		}
		s, err := member.Write(d, e)
		if err != nil {
			continue
		}
		archive := tar.NewReader(strings.NewReader(s + zeros(1024)))
		h, err := archive.Next()
		if err != nil {
			t.Fatalf("dialect %d, %+v: %v", d, e, err)
		}
		want, kind := e, h.Typeflag
		if kind == 'S' {
			kind = '0'
		}
		if e.Kind == '5' {
			want.Name += "/"
			if d == api.V7 {
				kind = '5' // only the slash tells
			}
		}
		want.Data, err = hole.Put(e.Data, e.Map, e.Size)
		if !member.Sparse(e) {
			want.Data, err = e.Data, nil
		}
		if err != nil {
			t.Fatal(err)
		}
		want.Map = nil
		data, err := io.ReadAll(archive)
		got := api.Entry{
			Name: h.Name, Kind: kind, Mode: int(h.Mode), Uid: h.Uid, Gid: h.Gid, Size: int(h.Size), Link: h.Linkname,
			Time: api.Time{Sec: int(h.ModTime.Unix()), Nano: h.ModTime.Nanosecond()}, User: h.Uname, Group: h.Gname,
			Major: int(h.Devmajor), Minor: int(h.Devminor), Data: string(data),
		}
		if err != nil || !sameEntry(got, want) {
			t.Fatalf("dialect %d, %+v: others read %+v, %v", d, e, got, err)
		}
		if _, err := archive.Next(); err != io.EOF {
			t.Fatalf("dialect %d, %+v: %v behind it", d, e, err)
		}
	}
}

func TestBlocks(t *testing.T) {
	long := strings.Repeat("n", 101)
	for _, c := range []struct {
		dialect          int
		r                head.Raw
		name, link, data string
		want             string
		err              api.Errno
	}{
		{api.Pax, head.Raw{Kind: 'g', Size: 4}, "a", "", "data", header(api.Pax, "g", "a", fields{124: oct(4)}) + filled("data"), api.OK},
		{api.V7, head.Raw{Kind: '2', Name: "x", Link: "x"}, "a", "b", "", header(api.V7, "2", "a", fields{157: "b"}), api.OK},
		{api.Ustar, head.Raw{Kind: '0'}, "f/" + long[1:], "", "", header(api.Ustar, "0", long[1:], fields{345: "f"}), api.OK},
		{api.Gnu, head.Raw{Kind: '0'}, "a", "", strings.Repeat("d", 513), header(api.Gnu, "0", "a") + filled(strings.Repeat("d", 513)), api.OK},
		{api.Gnu, head.Raw{Kind: '0'}, long, "", "data", "", api.ErrRange},
		{api.Pax, head.Raw{Kind: '0'}, long, "", "data", "", api.ErrRange},
		{api.Pax, head.Raw{Kind: '0'}, "a", long, "data", "", api.ErrRange},
		{api.Pax, head.Raw{Kind: '0', Size: -1}, "a", "", "data", "", api.ErrRange},
		{api.Pax, head.Raw{}, "a", "", "data", "", api.ErrArg},
		{5, head.Raw{Kind: '0'}, "a", "", "data", "", api.ErrArg},
	} {
		got, err := member.Blocks(c.dialect, c.r, c.name, c.link, c.data)
		if got != c.want || api.Tell(err) != c.err {
			t.Errorf("Blocks(%d, %+v, %q, %q, %q) = %q, %v, want %q, %v", c.dialect, c.r, c.name, c.link, c.data, got, err, c.want, c.err)
		}
	}
}

func Example() {
	e := api.Entry{Name: "a", Kind: api.Dir, Mode: 0o755}
	s, err := member.Write(api.Ustar, e)
	fmt.Println(len(s), err)
	again, end, _, err := member.Read(s, 0, nil)
	fmt.Println(again.Name, again.Kind == api.Dir, end, err)
	// Output:
	// 512 <nil>
	// a true 512 <nil>
}
