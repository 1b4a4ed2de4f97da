package head_test

import (
	"archive/tar"
	"bytes"
	"fmt"
	"math"
	"math/rand"
	"strings"
	"testing"
	"time"

	"revetment/api"
	"revetment/block"
	"revetment/head"
	"revetment/number"
	"revetment/path"
	"revetment/plain"
)

var dialects = []int{api.V7, api.Ustar, api.Gnu, api.Pax}

var noDialects = []int{math.MinInt, -1, 0, 5, 6, math.MaxInt}

// magics are those of no dialect, V7, Ustar, Gnu and Pax.
var magics = [...]string{"", "\x00\x00\x00\x00\x00\x00\x00\x00", "ustar\x0000", "ustar  \x00", "ustar\x0000"}

// text and amount are fields, to be set: the first byte and the number of bytes.
type text struct {
	name     string
	at, size int
	of       func(r *head.Raw) *string
}

type amount struct {
	name     string
	at, size int
	of       func(r *head.Raw) *int
}

var texts = []text{
	{"Name", 0, 100, func(r *head.Raw) *string { return &r.Name }},
	{"Link", 157, 100, func(r *head.Raw) *string { return &r.Link }},
	{"User", 265, 32, func(r *head.Raw) *string { return &r.User }},
	{"Group", 297, 32, func(r *head.Raw) *string { return &r.Group }},
	{"Front", 345, 155, func(r *head.Raw) *string { return &r.Front }},
}

var amounts = []amount{
	{"Mode", 100, 8, func(r *head.Raw) *int { return &r.Mode }},
	{"Uid", 108, 8, func(r *head.Raw) *int { return &r.Uid }},
	{"Gid", 116, 8, func(r *head.Raw) *int { return &r.Gid }},
	{"Size", 124, 12, func(r *head.Raw) *int { return &r.Size }},
	{"Time", 136, 12, func(r *head.Raw) *int { return &r.Time }},
	{"Major", 329, 8, func(r *head.Raw) *int { return &r.Major }},
	{"Minor", 337, 8, func(r *head.Raw) *int { return &r.Minor }},
}

// bounds are the numbers at which a field, or a kind of int, ends.
var bounds = []int{0, 1, 7, 8, -1, 2097151, 2097152, 8589934591, 8589934592, 1<<55 - 1, 1 << 55, -1 << 55, -1<<55 - 1, 1 << 60, math.MaxInt, math.MinInt}

// edges are texts at which a field of size bytes ends, and others.
func edges(size int) []string {
	full := strings.Repeat("f", size)
	return []string{
		"", "a", "a/b", "\xff\x80", " ", "\x01", full[1:], full, full + "f", strings.Repeat("l", 1000),
		"\x00", "a\x00", "\x00a", "a\x00b", full[1:] + "\x00", full + "\x00",
	}
}

// plainRaw is one that each dialect can hold.
func plainRaw() head.Raw {
	return head.Raw{Name: "dir/name", Kind: api.File, Mode: 0o644, Uid: 1000, Gid: 100, Size: 5, Time: 1 << 30, Link: "link"}
}

// richRaw is one that uses all that dialect can hold.
func richRaw(dialect int) head.Raw {
	r := plainRaw()
	if dialect != api.V7 {
		r.User, r.Group, r.Major, r.Minor = "user", "group", 8, 17
	}
	if dialect == api.Ustar || dialect == api.Pax {
		r.Front = "front"
	}
	return r
}

// sealed has the sum of s, worked out here.
func sealed(s string) string {
	sum := 8 * int(' ')
	for i, c := range []byte(s) {
		if i < 148 || i > 155 {
			sum += int(c)
		}
	}
	return s[:148] + fmt.Sprintf("%06o\x00 ", sum) + s[156:]
}

// with is a header with other bytes at a place, sealed again.
func with(s string, at int, field string) string {
	return sealed(s[:at] + field + s[at+len(field):])
}

// wantWrite lays the fields one behind the other, as they stand in a header.
func wantWrite(dialect int, r head.Raw) (string, api.Errno) {
	if dialect < 1 || dialect > 4 || r.Kind == 0 {
		return "", api.ErrArg
	}
	s, ok := "", true
	put := func(v string, size int, may bool) {
		ok = ok && len(v) <= size && !strings.Contains(v, "\x00") && (may || v == "")
		s += v + strings.Repeat("\x00", max(0, size-len(v)))
	}
	num := func(n, size int) {
		digits := fmt.Sprintf("%0*o", size-1, n)
		switch {
		case n >= 0 && len(digits) < size:
			s += digits + "\x00"
		case dialect == api.Gnu:
			field, err := number.Binary(n, size)
			ok = ok && err == nil
			s += field
		default:
			ok = false
		}
	}
	put(r.Name, 100, true)
	num(r.Mode, 8)
	num(r.Uid, 8)
	num(r.Gid, 8)
	num(r.Size, 12)
	num(r.Time, 12)
	s += "01234567" + string([]byte{r.Kind})
	put(r.Link, 100, true)
	s += magics[dialect]
	put(r.User, 32, dialect != api.V7)
	put(r.Group, 32, dialect != api.V7)
	if dialect == api.V7 {
		ok = ok && r.Major == 0 && r.Minor == 0
		s += strings.Repeat("\x00", 16)
	} else {
		num(r.Major, 8)
		num(r.Minor, 8)
	}
	put(r.Front, 155, dialect == api.Ustar || dialect == api.Pax)
	s += strings.Repeat("\x00", 12)
	if !ok {
		return "", api.ErrRange
	}
	return sealed(s), api.OK
}

// wantRead takes each field from its place.
func wantRead(s string) (head.Raw, int, api.Errno) {
	if len(s) != 512 {
		return head.Raw{}, 0, api.ErrForm
	}
	if !block.Right(s) {
		return head.Raw{}, 0, api.ErrSpoilt
	}
	ok := true
	str := func(at, size int) string { return strings.SplitN(s[at:at+size], "\x00", 2)[0] }
	num := func(at, size int) int {
		n, err := number.Read(s[at : at+size])
		ok = ok && err == nil
		return n
	}
	dialect := api.V7
	for d := api.Ustar; d <= api.Gnu; d++ {
		if s[257:265] == magics[d] {
			dialect = d
		}
	}
	r := head.Raw{
		Name: str(0, 100), Kind: s[156], Link: str(157, 100), Mode: num(100, 8), Uid: num(108, 8),
		Gid: num(116, 8), Size: num(124, 12), Time: num(136, 12),
	}
	if dialect != api.V7 {
		r.User, r.Group, r.Major, r.Minor = str(265, 32), str(297, 32), num(329, 8), num(337, 8)
	}
	if dialect == api.Ustar {
		r.Front = str(345, 155)
	}
	if r.Kind == 0 {
		r.Kind = '0'
	}
	if !ok {
		return head.Raw{}, 0, api.ErrRange
	}
	return r, dialect, api.OK
}

func sameWrite(t *testing.T, dialect int, r head.Raw, want string, wantErr api.Errno) {
	t.Helper()
	got, err := head.Write(dialect, r)
	if e, place := plain.Place(err); got != want || e != wantErr || place != -1 {
		t.Fatalf("Write(%d, %+v) = %q, error %v at %d, want %q, %v", dialect, r, got, e, place, want, wantErr)
	}
}

func sameRead(t *testing.T, s string, want head.Raw, wantDialect int, wantErr api.Errno) {
	t.Helper()
	got, dialect, err := head.Read(s)
	if e, place := plain.Place(err); got != want || dialect != wantDialect || e != wantErr || place != -1 {
		t.Fatalf("Read(%q) = %+v, %d, error %v at %d, want %+v, %d, %v", s, got, dialect, e, place, want, wantDialect, wantErr)
	}
}

// tryWrite holds Write against the requirement, and Read against what was written.
func tryWrite(t *testing.T, dialect int, r head.Raw) {
	t.Helper()
	want, e := wantWrite(dialect, r)
	sameWrite(t, dialect, r, want, e)
	if e == api.OK {
		if dialect == api.Pax {
			dialect = api.Ustar
		}
		sameRead(t, want, r, dialect, api.OK)
	}
}

func tryRead(t *testing.T, s string) {
	t.Helper()
	want, dialect, e := wantRead(s)
	sameRead(t, s, want, dialect, e)
}

// written is the header of a Raw that dialect can hold.
func written(t *testing.T, dialect int, r head.Raw) string {
	t.Helper()
	s, err := head.Write(dialect, r)
	if err != nil {
		t.Fatalf("Write(%d, %+v): %v", dialect, r, err)
	}
	return s
}

func TestWriteExamples(t *testing.T) {
	zeros := strings.Repeat("\x00", 512)
	plainPart := "a/b" + zeros[:97] + "0000755\x00" + "0000012\x00" + "0000013\x00" + "00000000005\x00" + "00000000077\x00"
	linkPart := "to" + zeros[:98]
	r := head.Raw{Name: "a/b", Link: "to", Kind: '1', Mode: 0o755, Uid: 0o12, Gid: 0o13, Size: 5, Time: 0o77}
	sameWrite(t, api.V7, r, plainPart+"005501\x00 1"+linkPart+zeros[:255], api.OK)

	r.User, r.Group, r.Major, r.Minor = "me", "us", 0o31, 0o32
	ownPart := "me" + zeros[:30] + "us" + zeros[:30] + "0000031\x00" + "0000032\x00"
	sameWrite(t, api.Gnu, r, plainPart+"011023\x00 1"+linkPart+"ustar  \x00"+ownPart+zeros[:167], api.OK)

	r.Front = "front"
	frontPart := "front" + zeros[:162]
	for _, d := range []int{api.Ustar, api.Pax} {
		sameWrite(t, d, r, plainPart+"012134\x00 1"+linkPart+"ustar\x0000"+ownPart+frontPart, api.OK)
	}

	r.Front, r.Time = "", -2
	binary := plainPart[:136] + "\xff\xff\xff\xff\xff\xff\xff\xff\xff\xff\xff\xfe"
	sameWrite(t, api.Gnu, r, binary+"015750\x00 1"+linkPart+"ustar  \x00"+ownPart+zeros[:167], api.OK)
}

func TestWriteNoDialect(t *testing.T) {
	wrong := head.Raw{Name: strings.Repeat("n", 101), Kind: '0', User: "\x00", Front: "f", Uid: -1, Major: 1}
	for _, d := range noDialects {
		for _, r := range []head.Raw{{}, plainRaw(), richRaw(api.Ustar), wrong} {
			sameWrite(t, d, r, "", api.ErrArg)
		}
	}
	wrong.Kind = 0
	for _, d := range dialects {
		sameWrite(t, d, head.Raw{}, "", api.ErrArg)
		sameWrite(t, d, wrong, "", api.ErrArg)
		for kind := range 256 {
			r := richRaw(d)
			r.Kind = byte(kind)
			tryWrite(t, d, r)
		}
	}
}

// TestWriteOneField sets each field to each of its bounds, for each dialect.
func TestWriteOneField(t *testing.T) {
	for _, d := range dialects {
		for _, r := range []head.Raw{{Kind: 'x'}, plainRaw(), richRaw(d)} {
			tryWrite(t, d, r)
			for _, f := range texts {
				for _, s := range edges(f.size) {
					x := r
					*f.of(&x) = s
					tryWrite(t, d, x)
				}
			}
			for _, f := range amounts {
				for _, n := range bounds {
					x := r
					*f.of(&x) = n
					tryWrite(t, d, x)
				}
			}
		}
	}
}

func TestWriteErrors(t *testing.T) {
	for _, c := range []struct {
		what string
		r    head.Raw
		may  [5]bool // by dialect
	}{
		{"a user", head.Raw{User: "u"}, [5]bool{2: true, 3: true, 4: true}},
		{"a group", head.Raw{Group: "g"}, [5]bool{2: true, 3: true, 4: true}},
		{"a major number", head.Raw{Major: 1}, [5]bool{2: true, 3: true, 4: true}},
		{"a minor number", head.Raw{Minor: 1}, [5]bool{2: true, 3: true, 4: true}},
		{"a negative major number", head.Raw{Major: -1}, [5]bool{3: true}},
		{"a front", head.Raw{Front: "f"}, [5]bool{2: true, 4: true}},
		{"a long name", head.Raw{Name: strings.Repeat("n", 100)}, [5]bool{1: true, 2: true, 3: true, 4: true}},
		{"too long a name", head.Raw{Name: strings.Repeat("n", 101)}, [5]bool{}},
		{"a zero byte in the name", head.Raw{Name: "a\x00"}, [5]bool{}},
		{"a big mode", head.Raw{Mode: 1 << 21}, [5]bool{3: true}},
		{"a negative size", head.Raw{Size: -1}, [5]bool{3: true}},
		{"a late time", head.Raw{Time: 1 << 33}, [5]bool{3: true}},
		{"the latest time", head.Raw{Time: math.MaxInt}, [5]bool{3: true}},
		{"too big an id", head.Raw{Uid: 1 << 55}, [5]bool{}},
	} {
		c.r.Kind = '0'
		for _, d := range dialects {
			got, err := head.Write(d, c.r)
			if e, place := plain.Place(err); c.may[d] != (e == api.OK) || e != api.OK && (e != api.ErrRange || got != "") || place != -1 {
				t.Errorf("%s, dialect %d: %q, error %v at %d", c.what, d, got, e, place)
			}
		}
	}
}

// drawn is a Raw with fields at and inside their bounds, and, where wild, beyond.
func drawn(r *rand.Rand, dialect int, wild bool) head.Raw {
	x := richRaw(dialect)
	if r.Intn(2) == 0 {
		x = plainRaw()
	}
	x.Kind = byte(1 + r.Intn(255))
	for _, f := range texts {
		v := f.of(&x)
		switch {
		case wild && r.Intn(12) == 0:
			l := edges(f.size)
			*v = l[r.Intn(len(l))]
		case *v != "" && r.Intn(2) == 0:
			*v = strings.Repeat(string([]byte{byte(1 + r.Intn(255))}), r.Intn(f.size+1))
		}
	}
	for _, f := range amounts {
		v := f.of(&x)
		switch {
		case wild && r.Intn(12) == 0:
			*v = bounds[r.Intn(len(bounds))]
		case dialect == api.Gnu && r.Intn(4) == 0:
			*v = r.Int()>>9 - 1<<53
		case *v != 0:
			*v = r.Intn(1 << (3 * (f.size - 1)))
		}
	}
	return x
}

func TestWriteDrawn(t *testing.T) {
	r := rand.New(rand.NewSource(9))
	for i := range 20000 {
		d := dialects[r.Intn(4)]
		tryWrite(t, d, drawn(r, d, i%2 == 0))
	}
}

// TestKnownToOthers holds headers against those of package archive/tar.
func TestKnownToOthers(t *testing.T) {
	r := rand.New(rand.NewSource(10))
	for range 2000 {
		x := head.Raw{
			Name: "n" + strings.Repeat("a", r.Intn(100)), Kind: tar.TypeReg, Mode: r.Intn(4096), Uid: r.Intn(1 << 21), Gid: r.Intn(1 << 21),
			Size: r.Intn(1 << 33), Time: r.Intn(1 << 33), User: strings.Repeat("u", r.Intn(33)), Group: strings.Repeat("g", r.Intn(33)),
		}
		if r.Intn(4) == 0 {
			x.Kind, x.Size, x.Link = tar.TypeSymlink, 0, "l"+strings.Repeat("b", r.Intn(100))
		}
		if r.Intn(4) == 0 {
			x.Kind, x.Size, x.Major, x.Minor = tar.TypeChar, 0, r.Intn(1<<21), r.Intn(1<<21)
		}
		d, format := api.Ustar, tar.FormatUSTAR
		if r.Intn(2) == 0 {
			d, format = api.Gnu, tar.FormatGNU
			x.Uid, x.Gid, x.Time = r.Intn(1<<40), r.Intn(1<<40), r.Intn(1<<40)-1<<39
		}
		var b bytes.Buffer
		err := tar.NewWriter(&b).WriteHeader(&tar.Header{
			Typeflag: x.Kind, Name: x.Name, Linkname: x.Link, Size: int64(x.Size), Mode: int64(x.Mode), Uid: x.Uid, Gid: x.Gid,
			Uname: x.User, Gname: x.Group, ModTime: time.Unix(int64(x.Time), 0), Devmajor: int64(x.Major), Devminor: int64(x.Minor), Format: format,
		})
		if err != nil {
			t.Fatalf("%+v: %v", x, err)
		}
		sameWrite(t, d, x, b.String(), api.OK)
		sameRead(t, b.String(), x, d, api.OK)
	}
}

func TestReadNoHeader(t *testing.T) {
	s := written(t, api.Ustar, plainRaw())
	for _, x := range []string{"", "a", s[:511], s + "\x00", s + s, s[1:], s[:156]} {
		sameRead(t, x, head.Raw{}, 0, api.ErrForm)
	}
	for _, x := range []string{strings.Repeat("\x00", 512), strings.Repeat("a", 512), strings.Repeat("\xff", 512), s[1:] + s[:1]} {
		sameRead(t, x, head.Raw{}, 0, api.ErrSpoilt)
	}
	// A number that can't be read is not asked for where the sum is wrong.
	sameRead(t, with(s, 100, "9"), head.Raw{}, 0, api.ErrRange)
	sameRead(t, s[:100]+"9"+s[101:], head.Raw{}, 0, api.ErrSpoilt)
}

func TestReadMagic(t *testing.T) {
	full := richRaw(api.Ustar)
	short := plainRaw()
	middle := full
	middle.Front = ""
	s := written(t, api.Ustar, full)
	sameRead(t, s, full, api.Ustar, api.OK)
	sameRead(t, with(s, 257, "ustar  \x00"), middle, api.Gnu, api.OK)
	for _, magic := range []string{
		"\x00\x00\x00\x00\x00\x00\x00\x00", "ustar\x00\x00\x00", "ustar   ", "ustar 00", "ustar \x00 ", "ustar  0", "ustar\x0001",
		"ustar\x0000"[1:] + "u", "USTAR\x0000", "ustar000", "ustar\x00 \x00", "Ustar  \x00", "tar     ",
	} {
		sameRead(t, with(s, 257, magic), short, api.V7, api.OK)
	}
	for i := range 8 {
		for _, m := range magics[api.Ustar : api.Gnu+1] {
			b := []byte(m)
			b[i] ^= 1
			sameRead(t, with(s, 257, string(b)), short, api.V7, api.OK)
		}
	}
}

// TestReadUnread puts what is no number, and texts, where a dialect has none.
func TestReadUnread(t *testing.T) {
	junk := strings.Repeat("x9", 80)
	s := written(t, api.V7, plainRaw())
	for _, f := range []struct{ at, size int }{{265, 32}, {297, 32}, {329, 8}, {337, 8}, {345, 155}, {500, 12}} {
		sameRead(t, with(s, f.at, junk[:f.size]), plainRaw(), api.V7, api.OK)
	}
	s = written(t, api.Gnu, richRaw(api.Gnu))
	sameRead(t, with(s, 345, junk[:155]), richRaw(api.Gnu), api.Gnu, api.OK)
	for _, d := range []int{api.Ustar, api.Gnu} {
		s = written(t, d, richRaw(d))
		sameRead(t, with(s, 500, junk[:12]), richRaw(d), d, api.OK)
		sameRead(t, with(s, 329, junk[:8]), head.Raw{}, 0, api.ErrRange)
		sameRead(t, with(s, 337, junk[:8]), head.Raw{}, 0, api.ErrRange)
	}
}

func TestReadTexts(t *testing.T) {
	for _, d := range []int{api.V7, api.Ustar, api.Gnu} {
		s := written(t, d, richRaw(d))
		for _, f := range texts {
			full := strings.Repeat("\xe9", f.size)
			for _, field := range []string{full, full[1:] + "\x00", "a\x00" + full[2:], "\x00" + full[1:], full[1:] + " "} {
				x := richRaw(d)
				if *f.of(&x) != "" {
					*f.of(&x) = strings.SplitN(field, "\x00", 2)[0]
				}
				sameRead(t, with(s, f.at, field), x, d, api.OK)
			}
		}
	}
}

func TestReadNumbers(t *testing.T) {
	for _, d := range []int{api.V7, api.Ustar, api.Gnu} {
		s := written(t, d, richRaw(d))
		for _, f := range amounts {
			if d == api.V7 && f.at > 257 {
				continue
			}
			rest := strings.Repeat("\x00", f.size)
			for _, c := range []struct {
				field string
				want  int
				err   api.Errno
			}{
				{rest, 0, 0},
				{strings.Repeat(" ", f.size), 0, 0},
				{" 17 " + rest[4:], 0o17, 0},
				{strings.Repeat("7", f.size), 1<<(3*f.size) - 1, 0},
				{"\x80" + rest[3:] + "\x01\x02", 258, 0},
				{strings.Repeat("\xff", f.size), -1, 0},
				{"\xff" + rest[1:], -1 << 56, 0},
				{"8" + rest[1:], 0, api.ErrRange},
				{"-1" + rest[2:], 0, api.ErrRange},
				{"1 1" + rest[3:], 0, api.ErrRange},
				{"\x001" + rest[2:], 0, api.ErrRange},
				{"\x81" + rest[1:], 1 << 56, 0},
				{"\xfe" + rest[1:], 126 << 56, 0},
			} {
				if f.size == 12 && (c.want <= -1<<56 || c.want >= 1<<56) {
					c.want, c.err = 0, api.ErrRange // 4 bytes more than fit into an int
				}
				x, dialect := richRaw(d), d
				*f.of(&x) = c.want
				if c.err != api.OK {
					x, dialect = head.Raw{}, 0
				}
				sameRead(t, with(s, f.at, c.field), x, dialect, c.err)
			}
		}
	}
}

func TestReadKinds(t *testing.T) {
	for _, d := range []int{api.V7, api.Ustar, api.Gnu} {
		s := written(t, d, richRaw(d))
		for kind := range 256 {
			x := richRaw(d)
			x.Kind = byte(max(kind, 1))
			if kind == 0 {
				x.Kind = '0'
			}
			sameRead(t, with(s, 156, string([]byte{byte(kind)})), x, d, api.OK)
		}
	}
}

// TestReadSums: also a signed sum, and one of other digits, is right.
func TestReadSums(t *testing.T) {
	r := plainRaw()
	r.Name = "\x80\xff"
	s := written(t, api.Ustar, r)
	sum, err := block.Sum(s, true)
	if err != nil {
		t.Fatal(err)
	}
	for _, field := range []string{fmt.Sprintf("%06o\x00 ", sum), fmt.Sprintf("%8o", sum), fmt.Sprintf("%8o", sum+512)} {
		sameRead(t, s[:148]+field+s[156:], r, api.Ustar, api.OK)
	}
	for _, sum := range []int{sum - 1, sum + 1, sum + 256, sum + 511, sum + 513} {
		sameRead(t, s[:148]+fmt.Sprintf("%8o", sum)+s[156:], head.Raw{}, 0, api.ErrSpoilt)
	}
}

// TestReadDrawn changes headers at drawn places and seals most of them again.
func TestReadDrawn(t *testing.T) {
	r := rand.New(rand.NewSource(11))
	for range 30000 {
		d := dialects[r.Intn(4)]
		b := []byte(written(t, d, drawn(r, d, false)))
		for range r.Intn(4) {
			b[r.Intn(512)] = "07 \x009a\x80\xff"[r.Intn(8)]
		}
		s := string(b)
		if r.Intn(4) > 0 {
			s = sealed(s)
		}
		tryRead(t, s)
	}
}

// TestChangedByteIsSeen: Read takes no header with one other byte, unless it is
// one of the sum, which then is right again: written in another way, or signed.
func TestChangedByteIsSeen(t *testing.T) {
	high := richRaw(api.Gnu)
	high.Name, high.Time = "\xff\x80", -1
	for _, s := range []string{written(t, api.V7, plainRaw()), written(t, api.Ustar, richRaw(api.Ustar)), written(t, api.Gnu, high)} {
		unsigned, _ := block.Sum(s, false)
		signed, _ := block.Sum(s, true)
		for i := range 512 {
			for c := range 256 {
				b := []byte(s)
				b[i] = byte(c)
				n, err := number.Read(string(b[148:156]))
				again := i >= 148 && i < 156 && err == nil && (n == unsigned || n == signed)
				if b[i] == s[i] || again {
					continue
				}
				sameRead(t, string(b), head.Raw{}, 0, api.ErrSpoilt)
			}
		}
	}
}

func TestFull(t *testing.T) {
	for _, c := range []struct{ front, name, want string }{
		{"", "", ""},
		{"", "a", "a"},
		{"", "a/b", "a/b"},
		{"", "/a", "/a"},
		{"a", "b", "a/b"},
		{"a", "", "a/"},
		{"/", "a", "//a"},
		{"a/", "/b", "a///b"},
		{"a/b", "c/d", "a/b/c/d"},
		{"\x00", "\xff", "\x00/\xff"},
		{strings.Repeat("f", 200), strings.Repeat("n", 200), strings.Repeat("f", 200) + "/" + strings.Repeat("n", 200)},
	} {
		r := richRaw(api.Ustar)
		r.Front, r.Name = c.front, c.name
		if got := r.Full(); got != c.want {
			t.Errorf("Full of %q and %q = %q, want %q", c.front, c.name, got, c.want)
		}
	}
}

func sameNamed(t *testing.T, dialect int, name, front, rest string, fits bool) {
	t.Helper()
	for _, r := range []head.Raw{{}, plainRaw(), richRaw(api.Ustar)} {
		want, before := r, r
		want.Front, want.Name = front, rest
		got, ok := r.Named(dialect, name)
		if got != want || ok != fits {
			t.Fatalf("%+v Named(%d, %q) = %+v, %v, want %+v, %v", r, dialect, name, got, ok, want, fits)
		}
		if r != before {
			t.Fatalf("Named(%d, %q) changes %+v", dialect, name, before)
		}
		if ok && got.Full() != name {
			t.Fatalf("Named(%d, %q) is called %q", dialect, name, got.Full())
		}
	}
}

func TestNamedExamples(t *testing.T) {
	a, b := strings.Repeat("a", 60), strings.Repeat("b", 100)
	for _, d := range []int{api.Ustar, api.Pax} {
		sameNamed(t, d, "", "", "", true)
		sameNamed(t, d, "a/b", "", "a/b", true)
		sameNamed(t, d, b, "", b, true)
		sameNamed(t, d, b+"c", "", "", false)
		sameNamed(t, d, a+"/"+b, a, b, true)
		sameNamed(t, d, a+"/"+b+"c", "", "", false)
		sameNamed(t, d, "/"+b, "", "", false)
		sameNamed(t, d, b+"/", "", "", false)
	}
	for _, d := range append([]int{api.V7, api.Gnu}, noDialects...) {
		sameNamed(t, d, "", "", "", true)
		sameNamed(t, d, "a/b", "", "a/b", true)
		sameNamed(t, d, b, "", b, true)
		sameNamed(t, d, b+"c", "", b+"c", false)
		sameNamed(t, d, a+"/"+b, "", a+"/"+b, false)
		sameNamed(t, d, "a\x00", "", "a\x00", true)
	}
}

func TestNamedDrawn(t *testing.T) {
	r := rand.New(rand.NewSource(12))
	for range 20000 {
		b := []byte(strings.Repeat("n", r.Intn(300)))
		for range r.Intn(4) {
			if len(b) > 0 {
				b[r.Intn(len(b))] = '/'
			}
		}
		name := string(b)
		front, rest, fits := path.Split(name)
		sameNamed(t, api.Ustar, name, front, rest, fits)
		sameNamed(t, api.Pax, name, front, rest, fits)
		sameNamed(t, api.V7, name, "", name, len(name) <= 100)
		sameNamed(t, api.Gnu, name, "", name, len(name) <= 100)
		if x, ok := plainRaw().Named(api.Ustar, name); ok {
			tryWrite(t, api.Ustar, x)
			tryWrite(t, api.Pax, x)
		}
	}
}

func Example() {
	r, ok := head.Raw{Kind: api.Dir, Mode: 0o755}.Named(api.Ustar, strings.Repeat("d", 70)+"/"+strings.Repeat("e", 40))
	fmt.Println(len(r.Front), len(r.Name), ok)
	s, err := head.Write(api.Ustar, r)
	fmt.Println(len(s), err)
	again, dialect, err := head.Read(s)
	fmt.Println(again == r, dialect == api.Ustar, err)
	// Output:
	// 70 40 true
	// 512 <nil>
	// true true <nil>
}

func FuzzRead(f *testing.F) {
	for _, d := range dialects {
		s, _ := head.Write(d, richRaw(d))
		f.Add(s, true)
		f.Add(s, false)
	}
	f.Add("", false)
	f.Fuzz(func(t *testing.T, s string, seal bool) {
		if seal && len(s) <= 512 {
			s = sealed(s + strings.Repeat("\x00", 512-len(s)))
		}
		tryRead(t, s)
		r, dialect, err := head.Read(s)
		if err != nil {
			return
		}
		for _, d := range []int{dialect, api.Ustar, api.Gnu} {
			tryWrite(t, d, r)
		}
	})
}
