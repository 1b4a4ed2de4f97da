package stream_test

import (
	"archive/tar"
	"fmt"
	"io"
	"math"
	"math/rand"
	"reflect"
	"slices"
	"strings"
	"testing"

	"revetment/api"
	"revetment/block"
	"revetment/head"
	"revetment/member"
	"revetment/plain"
	"revetment/stream"
)

var dialects = []int{api.V7, api.Ustar, api.Gnu, api.Pax}

var noDialects = []int{math.MinInt, -1, 0, 5, 6, math.MaxInt}

func zeros(n int) string { return strings.Repeat("\x00", n) }

// end is what is behind the members of an archive.
var end = zeros(1024)

func file(name, data string) api.Entry {
	return api.Entry{Name: name, Kind: api.File, Size: len(data), Data: data}
}

func dir(name string) api.Entry { return api.Entry{Name: name, Kind: api.Dir} }

// fifos are n members of one block each.
func fifos(n int) []api.Entry {
	var l []api.Entry
	for i := range n {
		l = append(l, api.Entry{Name: fmt.Sprint("f", i), Kind: api.Fifo})
	}
	return l
}

// members are the blocks of l, without those of the end.
func members(dialect int, l ...api.Entry) string {
	all := ""
	for _, e := range l {
		s, err := member.Write(dialect, e)
		if err != nil {
			panic(fmt.Sprintf("dialect %d does not write %+v: %v", dialect, e, err))
		}
		all += s
	}
	return all
}

func pair(key, value string) api.Pair { return api.Pair{Key: key, Value: value} }

// text is l as records, each of which has its length ahead.
func text(l ...api.Pair) string {
	all := ""
	for _, p := range l {
		rest := " " + p.Key + "=" + p.Value + "\n"
		n := len(rest) + 1
		for len(fmt.Sprint(n))+len(rest) != n {
			n++
		}
		all += fmt.Sprint(n) + rest
	}
	return all
}

// ahead is a header of a kind that stands ahead of members, with bytes.
func ahead(kind byte, name, bytes string) string {
	s, err := head.Write(api.Pax, head.Raw{Name: name, Kind: kind, Size: len(bytes)})
	if err != nil {
		panic(err)
	}
	return s + block.Fill(bytes)
}

// globals is the header of records for all that comes.
func globals(l ...api.Pair) string { return ahead('g', "GlobalHead", text(l...)) }

func sameWrite(t *testing.T, what string, dialect int, global []api.Pair, l []api.Entry, want string, wantErr api.Errno, wantPlace int) {
	t.Helper()
	got, err := stream.Write(dialect, global, l)
	errno, place := plain.Place(err)
	if got != want || errno != wantErr || place != wantPlace {
		t.Errorf("%s: Write(%d, %q, %+v) = %q, error %v at %d, want %q, %v at %d", what, dialect, global, l, got, errno, place, want, wantErr, wantPlace)
	}
}

func writes(t *testing.T, what string, dialect int, global []api.Pair, l []api.Entry, want string) {
	t.Helper()
	sameWrite(t, what, dialect, global, l, want, api.OK, -1)
}

func refuses(t *testing.T, what string, dialect int, global []api.Pair, l []api.Entry, err api.Errno, place int) {
	t.Helper()
	sameWrite(t, what, dialect, global, l, "", err, place)
}

func TestWrite(t *testing.T) {
	for _, d := range dialects {
		l := []api.Entry{dir("a"), file("a/b", "c")}
		writes(t, "a directory and a file", d, nil, l, members(d, l...)+end)
		if s, _ := stream.Write(d, nil, l); len(s) != 5*512 {
			t.Errorf("dialect %d: an archive of a directory and a file of one byte has %d bytes", d, len(s))
		}
		slices.Reverse(l)
		writes(t, "in another order", d, nil, l, members(d, l...)+end)
		l = append(l, l...)
		writes(t, "twice", d, []api.Pair{}, l, members(d, l...)+end)
	}
}

// TestWriteNothing: without members, there is nothing that a dialect may refuse.
func TestWriteNothing(t *testing.T) {
	for _, d := range slices.Concat(dialects, noDialects) {
		writes(t, "no members", d, nil, nil, end)
		writes(t, "no members", d, []api.Pair{}, []api.Entry{}, end)
	}
	writes(t, "no members, but records", api.Pax, []api.Pair{pair("a", "b")}, nil, end)
}

func TestWriteGlobal(t *testing.T) {
	l := []api.Entry{dir("a"), file("b", "c")}
	blocks := members(api.Pax, l...) + end
	// The bytes of a header, without a name for any of its fields.
	header := "GlobalHead" + zeros(90) + "0000000\x00" + "0000000\x00" + "0000000\x00" + "00000000024\x00" + "00000000000\x00" +
		"011157\x00 " + "g" + zeros(100) + "ustar\x0000" + zeros(64) + "0000000\x00" + "0000000\x00" + zeros(167)
	writes(t, "bytes", api.Pax, []api.Pair{pair("comment", "a record")}, l, header+"20 comment=a record\n"+zeros(492)+blocks)
	for _, global := range [][]api.Pair{
		{pair("a", "b")},
		{pair("z", "1"), pair("a", "2"), pair("z", "3")},
		{pair("a", ""), pair("a", "b"), pair("a", "")},
		{pair("uname", "\x00 \n=")},
		{pair("path", strings.Repeat("p", 196))},
		slices.Repeat([]api.Pair{pair("a", strings.Repeat("b", 199))}, 20),
		slices.Repeat([]api.Pair{pair("comment", strings.Repeat("c", 86))}, 5), // 500 bytes
		slices.Repeat([]api.Pair{pair("k", strings.Repeat("v", 122))}, 4),      // 512 bytes
	} {
		writes(t, "records", api.Pax, global, l, globals(global...)+blocks)
		writes(t, "records, and one member", api.Pax, global, l[1:], globals(global...)+members(api.Pax, l[1])+end)
	}
}

// TestWriteErrors: what is wrong is told in an order.
func TestWriteErrors(t *testing.T) {
	good := []api.Pair{pair("a", "b")}
	wrong := []api.Pair{good[0], pair("", "b"), pair("a=", "b")}
	many := slices.Repeat(good, 21)
	bad := api.Entry{Name: "a", Kind: 'Z'}
	badFirst := append([]api.Entry{bad}, fifos(3)...)
	for _, d := range slices.Concat(dialects, noDialects) {
		for _, global := range [][]api.Pair{nil, good, wrong, many} {
			refuses(t, "a member more than there may be", d, global, fifos(41), api.ErrLimit, -1)
			refuses(t, "members that are not valid, and too many", d, global, slices.Repeat(badFirst, 11), api.ErrLimit, -1)
			if d != api.Pax && global != nil {
				refuses(t, "records of another dialect", d, global, nil, api.ErrArg, -1)
				refuses(t, "records of another dialect", d, global, fifos(1), api.ErrArg, -1)
				refuses(t, "records of another dialect, and a member that is not valid", d, global, badFirst, api.ErrArg, -1)
			}
		}
	}
	for _, l := range [][]api.Entry{nil, fifos(1), badFirst, fifos(40)} {
		refuses(t, "a record that is not valid", api.Pax, wrong, l, api.ErrArg, -1)
		refuses(t, "too many records", api.Pax, many, l, api.ErrLimit, -1)
		refuses(t, "too many records, and one that is not valid", api.Pax, append(many[:20:20], wrong...), l, api.ErrLimit, -1)
		refuses(t, "a record that is too long", api.Pax, []api.Pair{pair("a", strings.Repeat("b", 200))}, l, api.ErrArg, -1)
	}
	for _, d := range noDialects {
		refuses(t, "no dialect", d, nil, fifos(2), api.ErrArg, 0)
	}
}

// TestWriteMemberErrors: the first member that cannot be written counts.
func TestWriteMemberErrors(t *testing.T) {
	notValid, late := api.Entry{}, file("late", "")
	late.Time.Nano = 1
	for _, c := range []struct {
		dialect int
		e       api.Entry
		err     api.Errno
	}{
		{api.V7, notValid, api.ErrArg},
		{api.Ustar, notValid, api.ErrArg},
		{api.Gnu, notValid, api.ErrArg},
		{api.Pax, notValid, api.ErrArg},
		{api.V7, late, api.ErrRange},
		{api.Ustar, late, api.ErrRange},
		{api.Gnu, late, api.ErrRange},
		{api.V7, fifos(1)[0], api.ErrRange},
		{api.Ustar, file(strings.Repeat("n", 101), ""), api.ErrRange},
	} {
		for n := range 40 {
			l := slices.Repeat([]api.Entry{file("a", strings.Repeat("b", 4000))}, n) // from 13 on, too many bytes
			l = append(l, c.e)
			refuses(t, "the last member", c.dialect, nil, l, c.err, n)
			if n < 30 {
				refuses(t, "the first of two", c.dialect, nil, append(l, late, notValid), c.err, n)
			}
		}
	}
	refuses(t, "behind records", api.Pax, []api.Pair{pair("a", "b")}, []api.Entry{dir("a"), notValid, late}, api.ErrArg, 1)
}

// TestWriteFull: 117 blocks are not too many; those of the end count, and those of
// the records.
func TestWriteFull(t *testing.T) {
	filler := func(blocks int) []api.Entry {
		var l []api.Entry
		for blocks > 0 {
			n := min(blocks, 8)
			l = append(l, file("a", strings.Repeat("b", min(512*(n-1), 4000))))
			blocks -= n
		}
		return l
	}
	for _, d := range dialects {
		for _, n := range []int{1, 2, 8, 9, 113, 114, 115} {
			writes(t, fmt.Sprint(n, " blocks"), d, nil, filler(n), members(d, filler(n)...)+end)
		}
		for _, n := range []int{116, 117, 118, 150, 300} {
			refuses(t, fmt.Sprint(n, " blocks"), d, nil, filler(n), api.ErrFull, -1)
		}
	}
	global := []api.Pair{pair("a", "b")}
	writes(t, "full with records", api.Pax, global, filler(113), globals(global...)+members(api.Pax, filler(113)...)+end)
	refuses(t, "overfull with records", api.Pax, global, filler(114), api.ErrFull, -1)
	for _, d := range dialects[1:] {
		writes(t, "40 members", d, nil, fifos(40), members(d, fifos(40)...)+end)
	}
}

func TestWriteKeepsArguments(t *testing.T) {
	make := func() ([]api.Pair, []api.Entry) {
		sparse := api.Entry{Name: "s", Kind: api.File, Size: 9, Data: "ab", Map: []api.Piece{{At: 1, Size: 2}, {At: 7, Size: 7}}[:1]}
		return []api.Pair{pair("z", "1"), pair("a", ""), pair("spare", "s")}[:2], append([]api.Entry{dir("a"), sparse}, fifos(3)...)[:3]
	}
	global, l := make()
	s, err := stream.Write(api.Pax, global, l)
	if err != nil {
		t.Fatal(err)
	}
	global2, l2 := make()
	if !reflect.DeepEqual(global[:3], global2[:3]) || !reflect.DeepEqual(l[:5], l2[:5]) || l[1].Map[:2][1] != l2[1].Map[:2][1] {
		t.Error("Write changes what it is given")
	}
	global[0], l[0], l[1].Map[0] = pair("c", "c"), dir("c"), api.Piece{}
	writes(t, "again", api.Pax, global2, l2, s)
}

// drawnFile is a file, at times a sparse one.
func drawnFile(r *rand.Rand, dialect int) api.Entry {
	e := file("", strings.Repeat("d", []int{0, 1, 511, 512, 513, r.Intn(1500)}[r.Intn(6)]))
	if dialect < api.Gnu || r.Intn(2) == 0 {
		return e
	}
	e.Data, e.Size = "", 200
	for i := range r.Intn(21) {
		e.Map = append(e.Map, api.Piece{At: 10*i + r.Intn(3), Size: 1 + i%7})
		e.Data += strings.Repeat(string(rune('a'+i)), 1+i%7)
	}
	return e
}

// drawn is a member that a dialect can represent.
func drawn(r *rand.Rand, dialect int) api.Entry {
	kinds := "0000125634"
	if dialect == api.V7 {
		kinds = kinds[:7]
	}
	e := api.Entry{Kind: kinds[r.Intn(len(kinds))]}
	switch e.Kind {
	case '0':
		e = drawnFile(r, dialect)
	case '1', '2':
		e.Link = strings.Repeat("l", 1+r.Intn(100))
		if dialect >= api.Gnu && r.Intn(3) == 0 {
			e.Link = strings.Repeat("k", 101+r.Intn(20))
		}
	case '3', '4':
		e.Major, e.Minor = r.Intn(9), r.Intn(1<<21)
	}
	e.Name = fmt.Sprint("dir/n", r.Intn(100))
	if dialect >= api.Gnu && r.Intn(3) == 0 {
		e.Name = strings.Repeat("n", 101+r.Intn(20))
	}
	e.Mode, e.Uid, e.Gid, e.Time.Sec = r.Intn(4096), r.Intn(1<<21), r.Intn(9), r.Intn(1<<33)
	if dialect > api.V7 {
		e.User, e.Group = []string{"", "root"}[r.Intn(2)], []string{"", "wheel"}[r.Intn(2)]
	}
	if dialect == api.Pax && r.Intn(3) == 0 {
		e.Time, e.Uid = api.Time{Sec: r.Intn(9) - 5, Nano: r.Intn(1e9)}, 1<<21+r.Intn(9)
	}
	return e
}

// drawnMembers are some that make an archive.
func drawnMembers(r *rand.Rand, dialect int) []api.Entry {
	for {
		var l []api.Entry
		for range []int{r.Intn(4), r.Intn(12), r.Intn(41)}[r.Intn(3)] {
			l = append(l, drawn(r, dialect))
		}
		if len(members(dialect, l...)) <= 60000-1024-2*512 {
			return l
		}
	}
}

func TestWriteDrawn(t *testing.T) {
	r := rand.New(rand.NewSource(30))
	for range 500 {
		for _, d := range dialects {
			l := drawnMembers(r, d)
			writes(t, "drawn", d, nil, l, members(d, l...)+end)
		}
	}
}

// TestWrittenForOthers lets package archive/tar read what was written.
func TestWrittenForOthers(t *testing.T) {
	r := rand.New(rand.NewSource(31))
	global := []api.Pair{pair("comment", "c")}
	for range 300 {
		for _, d := range dialects {
			l := drawnMembers(r, d)
			if d != api.Pax {
				global = nil
			} else {
				global = []api.Pair{pair("comment", "c")}
			}
			s, err := stream.Write(d, global, l)
			if err != nil {
				t.Fatal(err)
			}
			othersRead(t, s, global, l)
		}
	}
}

func othersRead(t *testing.T, s string, global []api.Pair, l []api.Entry) {
	t.Helper()
	archive := tar.NewReader(strings.NewReader(s))
	if len(global) > 0 && len(l) > 0 {
		h, err := archive.Next()
		if err != nil || h.Name != "GlobalHead" || h.Typeflag != tar.TypeXGlobalHeader || !reflect.DeepEqual(h.PAXRecords, map[string]string{"comment": "c"}) {
			t.Fatalf("others read the records as %+v, %v", h, err)
		}
	}
	for _, e := range l {
		h, err := archive.Next()
		if err != nil {
			t.Fatal(err)
		}
		name := e.Name
		if e.Kind == api.Dir {
			name += "/"
		}
		if h.Name != name || h.Linkname != e.Link || int(h.Size) != e.Size || int(h.Mode) != e.Mode || int(h.ModTime.Unix()) != e.Time.Sec {
			t.Fatalf("others read %+v as %+v", e, h)
		}
	}
	if h, err := archive.Next(); err != io.EOF {
		t.Fatalf("others read %+v, %v behind the last member", h, err)
	}
}

func Example() {
	s, err := stream.Write(api.Ustar, nil, []api.Entry{{Name: "a", Kind: api.Dir}, {Name: "a/b", Kind: api.File, Size: 1, Data: "c"}})
	fmt.Println(len(s)/512, err)
	l, spots, err := stream.Read(s)
	fmt.Println(l[1].Name, l[1].Data, spots, err)
	l, lost := stream.Rescue("b" + s[1:])
	fmt.Println(len(l), l[0].Name, lost)
	// Output:
	// 5 <nil>
	// a/b c [{0 512} {512 1536}] <nil>
	// 1 a/b 1
}
