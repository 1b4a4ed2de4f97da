package member

import (
	"strconv"
	"strings"

	"revetment/api"
	"revetment/block"
	"revetment/head"
	"revetment/number"
	"revetment/path"
	"revetment/pax"
	"revetment/stamp"
)

// The bytes of fields of a header.
const (
	nameSize = 100
	linkSize = 100
	idSize   = 8
	timeSize = 12
)

// Names of headers that stand ahead of a member, and of a member's own header
// where a record holds its name.
const (
	longName    = "././@LongLink"
	recordsName = "PaxHeader"
	standInName = "PaxName"
)

// Write returns e as blocks.
// Errors: ErrArg for a dialect that there is not or a member that is not valid,
// ErrRange for a member that the dialect cannot represent.
func Write(dialect int, e api.Entry) (string, error) {
	if dialect < api.V7 || dialect > api.Pax || !Right(e) {
		return "", api.ErrArg
	}
	switch dialect {
	case api.Gnu:
		return writeGnu(e)
	case api.Pax:
		return writePax(e)
	}
	return writeOld(dialect, e)
}

// Blocks returns the header of r with a name and a link, and data behind it,
// filled.
// Errors: ErrRange for a name that the dialect cannot represent; those of
// head.Write.
func Blocks(dialect int, r head.Raw, name, link, data string) (string, error) {
	r, ok := r.Named(dialect, name)
	if !ok {
		return "", api.ErrRange
	}
	r.Link = link
	header, err := head.Write(dialect, r)
	if err != nil {
		return "", err
	}
	return header + block.Fill(data), nil
}

// plainRaw is what the header of e holds, but for its name and link.
func plainRaw(e api.Entry) head.Raw {
	return head.Raw{
		Kind: e.Kind, Mode: e.Mode, Uid: e.Uid, Gid: e.Gid, Size: len(e.Data), Time: e.Time.Sec,
		User: e.User, Group: e.Group, Major: e.Major, Minor: e.Minor,
	}
}

func storedName(e api.Entry) string {
	if e.Kind == api.Dir {
		return e.Name + "/"
	}
	return e.Name
}

// writeOld writes for V7 and Ustar, which have no headers but the members' own.
func writeOld(dialect int, e api.Entry) (string, error) {
	if Sparse(e) || e.Time.Nano != 0 {
		return "", api.ErrRange
	}
	r := plainRaw(e)
	if dialect == api.V7 {
		switch e.Kind {
		case api.Char, api.Blk, api.Fifo:
			return "", api.ErrRange
		case api.Dir:
			r.Kind = api.File // the slash behind the name tells it from one
		}
	}
	return Blocks(dialect, r, storedName(e), e.Link, e.Data)
}

func writeGnu(e api.Entry) (string, error) {
	if e.Time.Nano != 0 {
		return "", api.ErrRange
	}
	var ahead strings.Builder
	// cut writes a text that is longer than its field ahead of the member, and
	// returns what the field holds.
	cut := func(kind byte, text string, size int) (string, error) {
		if len(text) <= size {
			return text, nil
		}
		s, err := Blocks(api.Gnu, head.Raw{Kind: kind, Size: len(text) + 1}, longName, "", text+"\x00")
		ahead.WriteString(s)
		return text[:size], err
	}
	link, err := cut(api.LongK, e.Link, linkSize)
	if err != nil {
		return "", err
	}
	name, err := cut(api.Long, storedName(e), nameSize)
	if err != nil {
		return "", err
	}
	r := plainRaw(e)
	if Sparse(e) {
		r.Kind = api.Holes
	}
	s, err := Blocks(api.Gnu, r, name, link, e.Data)
	if err == nil && Sparse(e) {
		s, err = withPieces(s, e)
	}
	if err != nil {
		return "", err
	}
	return ahead.String() + s, nil
}

func writePax(e api.Entry) (string, error) {
	var records []api.Pair
	// tell leaves to a record what the header has no room for.
	tell := func(key, value string) {
		records = append(records, api.Pair{Key: key, Value: value})
	}
	r, name, link, data := plainRaw(e), storedName(e), e.Link, e.Data
	if Sparse(e) {
		tell(sparseMajor, "1")
		tell(sparseMinor, "0")
		tell(sparseSize, strconv.Itoa(e.Size))
		data = block.Fill(pieceLines(e.Map)) + data
		r.Size = len(data)
	}
	if e.Gid > number.Most(idSize) {
		tell("gid", strconv.Itoa(e.Gid))
		r.Gid = 0
	}
	if len(link) > linkSize {
		tell("linkpath", link)
		link = link[:linkSize]
	}
	beyond := e.Time.Sec < 0 || e.Time.Sec > number.Most(timeSize)
	if beyond || e.Time.Nano != 0 {
		text, err := stamp.Text(e.Time)
		if err != nil {
			return "", err
		}
		tell("mtime", text)
	}
	if beyond {
		r.Time = 0
	}
	if _, _, fits := path.Split(name); !fits {
		tell("path", name)
		name = standInName
	}
	if e.Uid > number.Most(idSize) {
		tell("uid", strconv.Itoa(e.Uid))
		r.Uid = 0
	}
	ahead, err := writeRecords(records)
	if err != nil {
		return "", err
	}
	s, err := Blocks(api.Pax, r, name, link, data)
	if err != nil {
		return "", err
	}
	return ahead + s, nil
}

// writeRecords returns the extended header that holds records, if there are any.
func writeRecords(records []api.Pair) (string, error) {
	if len(records) == 0 {
		return "", nil
	}
	text, err := pax.Write(records)
	if err != nil {
		return "", api.ErrRange
	}
	return Blocks(api.Pax, head.Raw{Kind: api.Ext, Size: len(text)}, recordsName, "", text)
}
