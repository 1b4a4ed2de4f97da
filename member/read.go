package member

import (
	"slices"
	"strings"

	"revetment/api"
	"revetment/block"
	"revetment/head"
	"revetment/pax"
	"revetment/stamp"
)

const (
	// contiguous is the kind of files that are to lie in one piece on a disk.
	contiguous = '7'
	// maxStored is for the bytes of a file and its pieces ahead of them.
	maxStored = api.MaxData + 20*api.Block
	maxDigits = 15
)

// reader goes through the blocks of a member.
type reader struct {
	s           string
	at          int        // what is not yet read begins there
	name, link  *string    // the long ones, if there are any
	global, own []api.Pair // the records that apply
}

// Read returns the member at offset at, given the global records, the offset of
// what follows it, and the global records that then apply.
// Errors: ErrRange if s has no such offset; ErrNone if s ends or a zero block is
// there; and, with the offset of the header, ErrForm, ErrSpoilt, ErrRange and
// ErrLimit for what cannot be read, ErrArg for a member that is not valid.
func Read(s string, at int, global []api.Pair) (api.Entry, int, []api.Pair, error) {
	if at < 0 || at > len(s) {
		return api.Entry{}, 0, nil, api.ErrRange
	}
	if at == len(s) || block.Zero(s[at:min(at+api.Block, len(s))]) {
		return api.Entry{}, 0, nil, api.ErrNone
	}
	r := reader{s: s, at: at, global: slices.Clone(global)}
	for {
		place := r.at
		e, found, err := r.next()
		if err != nil {
			return api.Entry{}, 0, nil, &api.At{Err: api.Tell(err), Place: place}
		}
		if found {
			return e, r.at, r.global, nil
		}
	}
}

// next reads a header and what belongs to it; false if that is not a member but
// stands ahead of one.
func (r *reader) next() (api.Entry, bool, error) {
	header, err := r.take(api.Block, api.Block)
	if err != nil {
		return api.Entry{}, false, err
	}
	if block.Zero(header) {
		return api.Entry{}, false, api.ErrForm
	}
	raw, _, err := head.Read(header)
	if err != nil {
		return api.Entry{}, false, err
	}
	switch raw.Kind {
	case api.Long, api.LongK, api.Ext, api.Glob:
		return api.Entry{}, false, r.ahead(raw)
	}
	e, err := r.member(raw, header)
	return e, true, err
}

// take returns the next n bytes, of at most most, and goes on behind the block
// in which they end.
func (r *reader) take(n, most int) (string, error) {
	if n > most {
		return "", api.ErrLimit
	}
	if n < 0 || n+block.Pad(n) > len(r.s)-r.at {
		return "", api.ErrForm
	}
	taken := r.s[r.at : r.at+n]
	r.at += n + block.Pad(n)
	return taken, nil
}

// ahead reads what stands ahead of a member.
func (r *reader) ahead(raw head.Raw) error {
	data, err := r.take(raw.Size, api.MaxData)
	if err != nil {
		return err
	}
	switch raw.Kind {
	case api.Long, api.LongK:
		text, _, _ := strings.Cut(data, "\x00")
		if raw.Kind == api.Long {
			r.name = &text
		} else {
			r.link = &text
		}
		return nil
	}
	records, err := pax.Read(data)
	if err != nil {
		return err
	}
	if raw.Kind == api.Ext {
		r.own = records
	} else {
		r.global = pax.Merge(r.global, records)
	}
	return nil
}

// member reads the member itself.
func (r *reader) member(raw head.Raw, header string) (api.Entry, error) {
	e := entry(raw)
	if r.name != nil {
		e.Name = *r.name
	}
	if r.link != nil {
		e.Link = *r.link
	}
	records := pax.Merge(r.global, r.own)
	for _, p := range records {
		if err := apply(&e, p); err != nil {
			return api.Entry{}, err
		}
	}
	if err := r.data(&e, raw.Size, header, records); err != nil {
		return api.Entry{}, err
	}
	settle(&e)
	if !Right(e) {
		return api.Entry{}, api.ErrArg
	}
	return e, nil
}

func entry(raw head.Raw) api.Entry {
	return api.Entry{
		Name: raw.Full(), Kind: raw.Kind, Mode: raw.Mode, Uid: raw.Uid, Gid: raw.Gid, Size: raw.Size,
		Time: api.Time{Sec: raw.Time}, Link: raw.Link, User: raw.User, Group: raw.Group,
		Major: raw.Major, Minor: raw.Minor,
	}
}

// apply sets the field that p is for.
func apply(e *api.Entry, p api.Pair) error {
	var err error
	switch p.Key {
	case "path":
		e.Name = p.Value
	case "linkpath":
		e.Link = p.Value
	case "uname":
		e.User = p.Value
	case "gname":
		e.Group = p.Value
	case "mtime":
		e.Time, err = stamp.Parse(p.Value)
	case "uid":
		e.Uid, err = decimal(p.Value)
	case "gid":
		e.Gid, err = decimal(p.Value)
	}
	return err
}

// data reads the data of a member, of size bytes, and the pieces of a file.
func (r *reader) data(e *api.Entry, size int, header string, records []api.Pair) error {
	var err error
	switch e.Kind {
	case contiguous:
		e.Kind = api.File
	case api.Holes:
		e.Kind = api.File
		e.Map, e.Size, err = r.readPieces(header)
	}
	if err != nil {
		return err
	}
	e.Data, err = r.take(size, maxStored)
	if err != nil {
		return err
	}
	major, _ := pax.Get(records, sparseMajor)
	if major != "1" || e.Kind != api.File {
		return nil
	}
	// Without such a record, it is no number.
	told, _ := pax.Get(records, sparseSize)
	e.Size, err = decimal(told)
	if err != nil {
		return err
	}
	e.Map, e.Data, err = readLines(e.Data)
	return err
}

// settle makes a directory of a file that is called like one, and leaves out
// what members of a kind do not have.
func settle(e *api.Entry) {
	if e.Kind == api.File && strings.HasSuffix(e.Name, "/") {
		e.Kind = api.Dir
	}
	if e.Kind == api.Dir {
		e.Name = strings.TrimRight(e.Name, "/")
	}
	if e.Kind != api.File {
		e.Size, e.Data, e.Map = 0, "", nil
	}
	if !isLink(e.Kind) {
		e.Link = ""
	}
	if !isDevice(e.Kind) {
		e.Major, e.Minor = 0, 0
	}
}
