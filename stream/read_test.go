package stream_test

import (
	"archive/tar"
	"bytes"
	"fmt"
	"math/rand"
	"reflect"
	"slices"
	"strings"
	"testing"
	"time"

	"revetment/api"
	"revetment/block"
	"revetment/member"
	"revetment/plain"
	"revetment/stream"
)

// with is s with another byte at a place.
func with(s string, at int, c byte) string { return s[:at] + string([]byte{c}) + s[at+1:] }

// spoilt is s with a header at a place that is spoilt.
func spoilt(s string, at int) string { return with(s, at+1, s[at+1]^1) }

// owned is e by a user.
func owned(e api.Entry, user string) api.Entry {
	e.User = user
	return e
}

func sameEntries(a, b []api.Entry) bool {
	return slices.EqualFunc(a, b, func(a, b api.Entry) bool {
		if len(a.Map) == 0 && len(b.Map) == 0 {
			a.Map, b.Map = nil, nil
		}
		return reflect.DeepEqual(a, b)
	})
}

// spotsAt are those of members that begin at offsets, but for the last one, at
// which the last member ends.
func spotsAt(offsets ...int) []stream.Spot {
	var l []stream.Spot
	for i := range len(offsets) - 1 {
		l = append(l, stream.Spot{At: offsets[i], End: offsets[i+1]})
	}
	return l
}

func sameRead(t *testing.T, what, s string, want []api.Entry, wantSpots []stream.Spot, wantErr api.Errno, wantPlace int) {
	t.Helper()
	got, spots, err := stream.Read(s)
	errno, place := plain.Place(err)
	if !sameEntries(got, want) || !slices.Equal(spots, wantSpots) || errno != wantErr || place != wantPlace {
		t.Fatalf("%s: Read(%q) = %+v, %v, error %v at %d, want %+v, %v, %v at %d", what, s, got, spots, errno, place, want, wantSpots, wantErr, wantPlace)
	}
}

// reads also holds Rescue against what Read is to find.
func reads(t *testing.T, what, s string, want []api.Entry, wantSpots []stream.Spot) {
	t.Helper()
	sameRead(t, what, s, want, wantSpots, api.OK, -1)
	if l, _ := stream.Rescue(s); len(l) < len(want) || !sameEntries(l[:len(want)], want) {
		t.Fatalf("%s: Rescue(%q) = %+v, want %+v first", what, s, l, want)
	}
}

func fails(t *testing.T, what, s string, err api.Errno, place int) {
	t.Helper()
	sameRead(t, what, s, nil, nil, err, place)
}

func TestRead(t *testing.T) {
	for _, d := range dialects {
		l := []api.Entry{dir("a"), file("a/b", "c"), dir("d")}
		blocks := members(d, l...)
		spots := spotsAt(0, 512, 1536, 2048)
		for _, behind := range []string{
			"", zeros(512), end, zeros(513), zeros(9999), zeros(512) + "a", zeros(512) + blocks, end + blocks + end, end + strings.Repeat("a", 512),
		} {
			reads(t, "members", blocks+behind, l, spots)
		}
		for _, n := range []int{1, 100, 511} {
			fails(t, "too few zero bytes", blocks+zeros(n), api.ErrForm, 2048)
		}
	}
}

func TestReadNothing(t *testing.T) {
	for _, s := range []string{"", zeros(512), end, zeros(511 + 512), end + "a", end + members(api.Gnu, dir("a")), zeros(60000)} {
		reads(t, "nothing", s, nil, nil)
	}
	for _, s := range []string{"a", "\x00", zeros(511)} {
		fails(t, "not a block", s, api.ErrForm, 0)
	}
}

// TestReadSpots: what stands ahead of a member belongs to it.
func TestReadSpots(t *testing.T) {
	long := strings.Repeat("n", 101)
	l := []api.Entry{dir("a"), dir(long), {Name: long, Kind: api.Hard, Link: long}, file("b", strings.Repeat("c", 513))}
	reads(t, "long names", members(api.Gnu, l...)+end, l, spotsAt(0, 512, 2048, 4608, 6144))
	reads(t, "long names", members(api.Pax, l...)+end, l, spotsAt(0, 512, 2048, 3584, 5120))
	reads(t, "records for all", globals(pair("comment", "c"))+members(api.Pax, l...)+end, l, spotsAt(0, 1536, 3072, 4608, 6144))
	mixed := members(api.V7, l[0]) + globals(pair("comment", "c")) + members(api.Gnu, l[1]) + globals() + members(api.Pax, l[2])
	reads(t, "dialects", mixed+end, l[:3], spotsAt(0, 512, 3072, 5120))
	sparse := api.Entry{Name: "s", Kind: api.File, Size: 2000, Data: "ab", Map: []api.Piece{{At: 7, Size: 1}, {At: 1999, Size: 1}}}
	reads(t, "holes", members(api.Gnu, sparse, l[0])+end, []api.Entry{sparse, l[0]}, spotsAt(0, 1024, 1536))
	reads(t, "holes", members(api.Pax, sparse, l[0])+end, []api.Entry{sparse, l[0]}, spotsAt(0, 2560, 3072))
}

// TestReadGlobal: records for all apply from where they stand on.
func TestReadGlobal(t *testing.T) {
	a, b, c := dir("a"), dir("b"), dir("c")
	A, B, C := members(api.Pax, a), members(api.Pax, b), members(api.Pax, c)
	root, user := globals(pair("uname", "root")), globals(pair("uname", "user"))
	reads(t, "ahead of all", root+A+B+C+end, []api.Entry{owned(a, "root"), owned(b, "root"), owned(c, "root")}, spotsAt(0, 1536, 2048, 2560))
	reads(t, "in the middle", A+root+B+C+end, []api.Entry{a, owned(b, "root"), owned(c, "root")}, spotsAt(0, 512, 2048, 2560))
	reads(t, "replaced", root+A+user+B+C, []api.Entry{owned(a, "root"), owned(b, "user"), owned(c, "user")}, spotsAt(0, 1536, 3072, 3584))
	reads(t, "taken away", root+A+globals(pair("uname", ""))+B+C, []api.Entry{owned(a, "root"), b, c}, spotsAt(0, 1536, 3072, 3584))
	wheel := []api.Entry{owned(a, "root"), owned(b, "root"), owned(c, "root")}
	wheel[1].Group, wheel[2].Group = "wheel", "wheel"
	reads(t, "added", root+A+globals(pair("gname", "wheel"))+B+C, wheel, spotsAt(0, 1536, 3072, 3584))
	reads(t, "two at once", root+user+A+B, []api.Entry{owned(a, "user"), owned(b, "user")}, spotsAt(0, 2560, 3072))
	own := ahead('x', "PaxHeader", text(pair("uname", "own")))
	reads(t, "of one member", own+A+B, []api.Entry{owned(a, "own"), b}, spotsAt(0, 1536, 2048))
	reads(t, "of one member, too", root+own+A+B, []api.Entry{owned(a, "own"), owned(b, "root")}, spotsAt(0, 2560, 3072))

	s, err := stream.Write(api.Pax, []api.Pair{pair("uname", "root"), pair("z", "")}, []api.Entry{a, b})
	if err != nil {
		t.Fatal(err)
	}
	reads(t, "as written", s, []api.Entry{owned(a, "root"), owned(b, "root")}, spotsAt(0, 1536, 2048))
	// What one archive leaves does not apply to the next one.
	reads(t, "of no archive", A+end, []api.Entry{a}, spotsAt(0, 512))
}

func TestReadErrors(t *testing.T) {
	a := members(api.Pax, dir("a"))
	long := members(api.Gnu, dir(strings.Repeat("n", 101)))
	data := members(api.Ustar, file("f", strings.Repeat("d", 600)))
	for _, c := range []struct {
		what, s string
		err     api.Errno
		place   int
	}{
		{"spoilt", spoilt(a, 0), api.ErrSpoilt, 0},
		{"the name's header is spoilt", spoilt(long, 0), api.ErrSpoilt, 0},
		{"spoilt behind the name", spoilt(long, 1024), api.ErrSpoilt, 1024},
		{"bytes", strings.Repeat("b", 512), api.ErrSpoilt, 0},
		{"an incomplete block", a[:511], api.ErrForm, 0},
		{"incomplete data", data[:1535], api.ErrForm, 0},
		{"no member behind the name", long[:1024], api.ErrForm, 1024},
		{"no member behind records", globals(pair("a", "b")), api.ErrForm, 1024},
		{"a record that is not valid", ahead('g', "h", "9 path=b\n9"), api.ErrForm, 0},
		{"too many records", ahead('x', "h", strings.Repeat("6 a=b\n", 21)), api.ErrLimit, 0},
		{"a uid that is not a number", globals(pair("uid", "x")) + a, api.ErrForm, 1024},
		{"a user who is not valid", globals(pair("uname", "\x00")) + a, api.ErrArg, 1024},
		{"another kind", ahead('Z', "z", "z"), api.ErrArg, 0},
	} {
		for _, behind := range []string{"", end, zeros(511)} {
			if behind != "" && strings.Contains(c.what, "incomplete") {
				continue
			}
			fails(t, c.what, c.s+behind, c.err, c.place)
			fails(t, c.what+", behind a member", a+c.s+behind, c.err, c.place+512)
			fails(t, c.what+", behind members", a+data+long+c.s+behind, c.err, c.place+512+1536+1536)
		}
	}
}

// TestReadMany: 40 members are not too many.
func TestReadMany(t *testing.T) {
	for n := 38; n <= 40; n++ {
		l := fifos(n)
		s := members(api.Gnu, l...)
		var offsets []int
		for i := range n + 1 {
			offsets = append(offsets, 512*i)
		}
		for _, behind := range []string{"", end, end + members(api.Gnu, fifos(2)...)} {
			reads(t, fmt.Sprint(n, " members"), s+behind, l, spotsAt(offsets...))
		}
		fails(t, "an incomplete one behind them", s+zeros(511), api.ErrForm, 512*n)
		fails(t, "a spoilt one behind them", s+spoilt(members(api.Gnu, dir("a")), 0)+end, api.ErrSpoilt, 512*n)
		fails(t, "records behind them", s+globals(pair("a", "b"))+end, api.ErrForm, 512*n+1024)
	}
	s := members(api.Gnu, fifos(40)...)
	for _, more := range []string{
		members(api.Gnu, dir("a")), members(api.Gnu, dir(strings.Repeat("n", 101))),
		globals(pair("a", "b")) + members(api.Pax, dir("a")), members(api.Gnu, fifos(9)...),
		members(api.Gnu, dir("a")) + "b", members(api.V7, dir("a")) + spoilt(members(api.V7, dir("a")), 0),
	} {
		fails(t, "a member more", s+more, api.ErrLimit, 20480)
		fails(t, "a member more", s+more+zeros(512), api.ErrLimit, 20480)
	}
}

func TestReadMuch(t *testing.T) {
	a := members(api.Ustar, dir("a"))
	reads(t, "much", a+zeros(60000-512), []api.Entry{dir("a")}, spotsAt(0, 512))
	for _, n := range []int{60001, 60416, 600000} {
		for _, s := range []string{zeros(n), a + zeros(n-512), strings.Repeat("b", n), members(api.Ustar, fifos(41)...) + zeros(n-41*512), spoilt(a, 0) + zeros(n-512)} {
			fails(t, "too much", s, api.ErrLimit, -1)
		}
	}
	fails(t, "not too much, but wrong", strings.Repeat("b", 60000), api.ErrSpoilt, 0)
}

// TestReadWritten: what is written is read again.
func TestReadWritten(t *testing.T) {
	r := rand.New(rand.NewSource(32))
	for range 400 {
		for _, d := range dialects {
			l := drawnMembers(r, d)
			var global []api.Pair
			first := 0
			if d == api.Pax && r.Intn(2) == 0 {
				global, first = []api.Pair{pair("comment", "c"), pair("other", "")}, 1024
			}
			s, err := stream.Write(d, global, l)
			if err != nil {
				t.Fatal(err)
			}
			offsets := []int{0}
			for _, e := range l {
				offsets = append(offsets, first+offsets[len(offsets)-1]+len(members(d, e)))
				first = 0
			}
			reads(t, "written", s, l, spotsAt(offsets...))
			if _, lost := stream.Rescue(s); lost != 0 {
				t.Fatalf("Rescue(%q) loses %d blocks", s, lost)
			}
		}
	}
}

// wantRead reads the members behind n others.
func wantRead(s string, at, n int, global []api.Pair) ([]api.Entry, []stream.Spot, error) {
	e, next, left, err := member.Read(s, at, global)
	if err == api.ErrNone {
		return nil, nil, nil
	}
	if err == nil && n == 40 {
		err = &api.At{Err: api.ErrLimit, Place: at}
	}
	if err != nil {
		return nil, nil, err
	}
	l, spots, err := wantRead(s, next, n+1, left)
	if err != nil {
		return nil, nil, err
	}
	return append([]api.Entry{e}, l...), append([]stream.Spot{{At: at, End: next}}, spots...), nil
}

// unreadable is a header with a right checksum, and something else wrong in it.
func unreadable(r *rand.Rand) string {
	if r.Intn(2) == 0 {
		return ahead('Z', "z", "") // there is no such kind
	}
	s, err := block.Seal(with(members(api.Ustar, dir("a")), 100+r.Intn(7), 'x')) // nor such a mode
	if err != nil {
		panic(err)
	}
	return s
}

// drawnArchive has members of dialects, records and junk in it, and something may
// be changed, left out or repeated.
func drawnArchive(r *rand.Rand) string {
	var all strings.Builder
	for range 1 + r.Intn(6) {
		d := dialects[r.Intn(4)]
		part := ""
		switch r.Intn(12) {
		case 0:
			part = globals(pair([]string{"uname", "gname", "uid", "comment"}[r.Intn(4)], []string{"", "5", "x"}[r.Intn(3)]))
		case 1:
			part = ahead("xLK"[r.Intn(3)], "h", text(pair("path", fmt.Sprint("p", r.Intn(9)))))
		case 2:
			part = zeros(512 * (1 + r.Intn(3)))
		case 3:
			part = strings.Repeat("junk", r.Intn(3)*128)
		case 4:
			l := drawnMembers(r, d)
			part = members(d, l[:min(len(l), 25)]...)
		case 5:
			part = members(api.Gnu, fifos(18+r.Intn(24))...)
		case 6:
			part = unreadable(r)
		default:
			part = members(d, drawn(r, d))
		}
		all.WriteString(part)
	}
	b := []byte(all.String())
	for range r.Intn(4) {
		at, length := r.Intn(len(b)+1), r.Intn(2000)
		end := min(at+length, len(b))
		switch r.Intn(5) {
		case 0:
			b = b[:end]
		case 1:
			b = slices.Concat(b[:at/512*512], b[end/512*512:])
		case 2:
			b = slices.Concat(b, b[at/512*512:end])
		default:
			if at < len(b) {
				b[at] ^= 1 << r.Intn(8)
			}
		}
	}
	return string(b)
}

// TestReadDrawn: whatever is read is what one member after the other is.
func TestReadDrawn(t *testing.T) {
	r := rand.New(rand.NewSource(33))
	found := map[api.Errno]int{}
	for range 8000 {
		s := drawnArchive(r)
		if len(s) > 60000 {
			continue
		}
		l, spots, err := wantRead(s, 0, 0, nil)
		errno, place := plain.Place(err)
		found[errno]++
		sameRead(t, "drawn", s, l, spots, errno, place)
	}
	for _, errno := range []api.Errno{api.OK, api.ErrArg, api.ErrRange, api.ErrForm, api.ErrLimit, api.ErrSpoilt} {
		if found[errno] < 20 {
			t.Errorf("only %d archives with %v were drawn", found[errno], errno)
		}
	}
}

// TestReadOthers reads what package archive/tar writes.
func TestReadOthers(t *testing.T) {
	for _, format := range []tar.Format{tar.FormatUSTAR, tar.FormatGNU, tar.FormatPAX} {
		var b bytes.Buffer
		archive := tar.NewWriter(&b)
		must := func(err error) {
			t.Helper()
			if err != nil {
				t.Fatal(err)
			}
		}
		want := []api.Entry{dir("a"), file("a/b", "data"), {Name: "c", Kind: api.Soft, Link: "a/b"}}
		if format != tar.FormatUSTAR {
			want = append(want, file(strings.Repeat("n", 110), "long"))
		}
		if format == tar.FormatPAX {
			must(archive.WriteHeader(&tar.Header{Typeflag: tar.TypeXGlobalHeader, PAXRecords: map[string]string{"uname": "root"}}))
			want[3].Time.Nano = 5e8
		}
		for i := range want {
			e := &want[i]
			e.Mode, e.Time.Sec = 0o640, 1<<30+i
			if format == tar.FormatPAX {
				e.User = "root"
			}
			h := tar.Header{
				Typeflag: e.Kind, Name: e.Name, Linkname: e.Link, Size: int64(e.Size), Mode: int64(e.Mode),
				ModTime: time.Unix(int64(e.Time.Sec), int64(e.Time.Nano)), Format: format,
			}
			if e.Kind == api.Dir {
				h.Name += "/"
			}
			must(archive.WriteHeader(&h))
			_, err := archive.Write([]byte(e.Data))
			must(err)
		}
		must(archive.Close())
		l, _, err := stream.Read(b.String())
		if err != nil || !sameEntries(l, want) {
			t.Errorf("%v: Read = %+v, %v, want %+v", format, l, err, want)
		}
	}
}
