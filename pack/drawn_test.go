package pack_test

import (
	"fmt"
	"maps"
	"math/rand"
	"slices"
	"strings"
	"testing"

	"revetment/api"
	"revetment/member"
	"revetment/pack"
	"revetment/path"
	"revetment/stream"
	"revetment/tree"
)

// model is a tree as numbers of files by names, and the files.
type model struct {
	number map[string]int
	files  []api.Node
}

func modelOf(all *tree.Tree) model {
	m := model{number: map[string]int{}}
	for _, name := range all.Names() {
		m.number[name] = len(m.files)
		for other, number := range m.number {
			if all.Alike(name, other) {
				m.number[name] = min(m.number[name], number)
			}
		}
		n, _ := all.Get(name)
		m.files = append(m.files, n)
	}
	return m
}

func (m model) copy() model { return model{maps.Clone(m.number), slices.Clone(m.files)} }

// kind is that of a name, 0 if it is not there.
func (m model) kind(name string) byte {
	if i, ok := m.number[name]; ok {
		return m.files[i].Kind
	}
	return 0
}

// target is where a hard link leads; done if the name leads there already.
func (m model) target(name, link string) (to string, done bool, err api.Errno) {
	to, ok := path.Clean(link)
	if !ok || to != "" && !path.Right(to) {
		return "", false, api.ErrName
	}
	switch m.kind(to) {
	case 0:
		return "", false, api.ErrMissing
	case api.Dir:
		return "", false, api.ErrState
	}
	i, there := m.number[name]
	return to, there && i == m.number[to], api.OK
}

// missing are the directories that a name needs, and that are not there.
func (m model) missing(name string) ([]string, api.Errno) {
	var l []string
	for i, c := range []byte(name) {
		if c != '/' {
			continue
		}
		switch m.kind(name[:i]) {
		case 0:
			l = append(l, name[:i])
		case api.Dir:
		default:
			return nil, api.ErrState
		}
	}
	return l, api.OK
}

// into is the tree with a member, or the error: it counts the names ahead.
func (m model) into(e api.Entry) (model, api.Errno) {
	if !member.Right(e) {
		return m, api.ErrArg
	}
	name, ok := path.Clean(e.Name)
	if ok && name == "" && e.Kind == api.Dir {
		return m, api.OK
	}
	if !ok || !path.Right(name) {
		return m, api.ErrName
	}
	to := ""
	if e.Kind == api.Hard {
		var done bool
		var err api.Errno
		to, done, err = m.target(name, e.Link)
		if done || err != api.OK {
			return m, err
		}
	}
	dirs, err := m.missing(name)
	if err != api.OK {
		return m, err
	}
	old := m.kind(name)
	if old == api.Dir && e.Kind != api.Dir {
		return m, api.ErrState
	}
	if old == 0 && len(m.number)+len(dirs)+1 > 60 {
		return m, api.ErrFull
	}
	next := m.copy()
	for _, dir := range dirs {
		next.number[dir] = len(next.files)
		next.files = append(next.files, api.Node{Kind: '5', Mode: 0o755})
	}
	if e.Kind == api.Hard {
		next.number[name] = next.number[to]
		return next, api.OK
	}
	next.number[name] = len(next.files)
	next.files = append(next.files, api.Node{Kind: e.Kind, Mode: e.Mode, Uid: e.Uid, Gid: e.Gid, Time: e.Time, Data: whole(e), Link: e.Link, Major: e.Major, Minor: e.Minor})
	return next, api.OK
}

// whole is the file of a member, by single bytes.
func whole(e api.Entry) string {
	if len(e.Map) == 0 && len(e.Data) == e.Size {
		return e.Data
	}
	data := []byte(zeros(e.Size))
	from := 0
	for _, p := range e.Map {
		for i := range p.Size {
			data[p.At+i] = e.Data[from]
			from++
		}
	}
	return string(data)
}

// names are in their order: a valid name holds no zero byte.
func (m model) names() []string {
	key := func(name string) string { return strings.ReplaceAll(name, "/", "\x00") }
	return slices.SortedFunc(maps.Keys(m.number), func(a, b string) int { return strings.Compare(key(a), key(b)) })
}

// seen is what seen tells of the tree.
func (m model) seen() string {
	var b strings.Builder
	names := m.names()
	for _, name := range names {
		fmt.Fprintf(&b, "%q %+v <nil>", name, m.files[m.number[name]])
		for _, other := range names {
			if m.number[other] == m.number[name] {
				fmt.Fprintf(&b, " %q", other)
			}
		}
		b.WriteString("\n")
	}
	return b.String()
}

// list are the members, without holes.
func (m model) list() []api.Entry {
	var l []api.Entry
	first := map[int]string{}
	for _, name := range m.names() {
		n := m.files[m.number[name]]
		e := api.Entry{Name: name, Kind: n.Kind, Mode: n.Mode, Uid: n.Uid, Gid: n.Gid, Time: n.Time, Size: len(n.Data), Data: n.Data, Link: n.Link, Major: n.Major, Minor: n.Minor}
		if other, ok := first[m.number[name]]; ok {
			e.Kind, e.Link, e.Size, e.Data, e.Major, e.Minor = '1', other, 0, "", 0, 0
		} else {
			first[m.number[name]] = name
		}
		l = append(l, e)
	}
	return l
}

// drawnName is of few parts, so that names meet often.
func drawnName(r *rand.Rand) string {
	name := string("abcd"[r.Intn(4)])
	for r.Intn(5) < 2 {
		name += "/" + string("abcd"[r.Intn(4)])
	}
	switch r.Intn(40) {
	case 0:
		return "../" + name
	case 1:
		return "/./" + name
	case 2:
		return name + "/" + repeat("n", 110+r.Intn(10))
	case 3:
		return name + repeat("/a", r.Intn(14))
	case 4:
		return name + "." + name
	case 5:
		return name + repeat("/..", r.Intn(4))
	}
	return name
}

func drawnData(r *rand.Rand) string {
	data := ""
	for range r.Intn(9) {
		data += []string{"", "a", "\x00", zeros(511), zeros(512), repeat("d", 400), "\x00b"}[r.Intn(7)]
	}
	return data[:min(len(data), 4000)]
}

func drawnTime(r *rand.Rand) api.Time {
	return api.Time{Sec: []int{0, 1, 1 << 33, -1, 1 << 40}[r.Intn(5)], Nano: []int{0, 0, 1, 500_000_000}[r.Intn(4)]}
}

// drawnMember is a member, which is mostly valid.
func drawnMember(r *rand.Rand) api.Entry {
	e := api.Entry{Name: drawnName(r), Kind: "0011123455556"[r.Intn(13)], Mode: r.Intn(2), Uid: []int{0, 1, 1 << 39}[r.Intn(3)], Gid: r.Intn(2), Time: drawnTime(r)}
	switch e.Kind {
	case '0':
		e.Data = drawnData(r)
		e.Size = len(e.Data)
		if r.Intn(3) == 0 {
			e.Size = r.Intn(4000)
			e.Data, e.Map = "x", []api.Piece{{At: r.Intn(4000), Size: 1}}
		}
	case '1', '2':
		e.Link = []string{"", "", "", "/", "../", "./"}[r.Intn(6)] + drawnName(r)
	case '3', '4':
		e.Major = r.Intn(2)
	}
	switch r.Intn(60) {
	case 0:
		e.Mode = 0o7777 + r.Intn(2)
	case 1:
		e.User = repeat("u", 31+r.Intn(3))
	case 2:
		e.Link += "l"
	case 3:
		e.Size++
	}
	return e
}

// drawnTree has many names, at times as many as there may be.
func drawnTree(r *rand.Rand) *tree.Tree {
	var all tree.Tree
	for range r.Intn(60) {
		e := drawnMember(r)
		n := api.Node{Kind: e.Kind, Mode: e.Mode, Uid: e.Uid, Gid: e.Gid, Time: e.Time, Data: whole(api.Entry{Size: len(e.Data), Data: e.Data}), Link: e.Link, Major: e.Major, Minor: e.Minor}
		if e.Kind == api.Hard {
			all.Do(again(e.Link, e.Name))
		} else {
			all.Do(makes(e.Name, n))
		}
		if names := all.Names(); r.Intn(3) == 0 && len(names) > 0 {
			all.Do(again(names[r.Intn(len(names))], drawnName(r)))
		}
	}
	for i := range r.Intn(2) * 60 {
		if len(all.Names()) < 55+r.Intn(6) {
			all.Do(makes(fmt.Sprint("f", i), fifo()))
		}
	}
	return &all
}

func TestDrawnInto(t *testing.T) {
	r := rand.New(rand.NewSource(1))
	met := map[api.Errno]int{}
	for range 200 {
		all := drawnTree(r)
		m := modelOf(all)
		var l []api.Entry
		var diffs []api.Diff
		own := all.Copy()
		for i := range 30 {
			e := drawnMember(r)
			next, want := m.into(e)
			if err := pack.Into(all, e); api.Tell(err) != want {
				t.Fatalf("Into(%+.300v) of\n%s: error %v, want %d", e, m.seen(), err, want)
			}
			if got, wantSeen := seen(all), next.seen(); got != wantSeen {
				t.Fatalf("Into(%+.300v) of\n%smakes\n%swant\n%s", e, m.seen(), got, wantSeen)
			}
			m = next
			met[want]++
			l = append(l, e)
			if want != api.OK {
				diffs = append(diffs, api.Diff{Which: i, What: int(want)})
			}
		}
		sameAll(t, own, l, diffs...)
		if !own.Same(all) {
			t.Fatalf("All(%+v) makes %s, want %s", l, seen(own), seen(all))
		}
		lists(t, all, m.list(), pack.List(all, true))
	}
	for _, err := range []api.Errno{api.OK, api.ErrArg, api.ErrName, api.ErrMissing, api.ErrState, api.ErrFull} {
		if met[err] < 100 {
			t.Errorf("error %d is drawn %d times", err, met[err])
		}
	}
}

// TestTreeAgain: a tree equals the tree extracted from its members.
func TestTreeAgain(t *testing.T) {
	r := rand.New(rand.NewSource(2))
	archives := 0
	for range 150 {
		all := drawnTree(r)
		for _, holes := range []bool{false, true} {
			l := pack.List(all, holes)
			same(t, all, l)
			// As archives keep them, too.
			var kept []api.Entry
			for _, e := range l {
				s, err := member.Write(api.Pax, e)
				if err != nil {
					t.Fatalf("Write(%+v): %v", e, err)
				}
				back, _, _, err := member.Read(s, 0, nil)
				if err != nil {
					t.Fatalf("Read of %+v: %v", e, err)
				}
				kept = append(kept, back)
			}
			same(t, all, kept)
			s, err := stream.Write(api.Pax, nil, l)
			if err != nil { // It is too long.
				continue
			}
			read, _, err := stream.Read(s)
			if err != nil {
				t.Fatal(err)
			}
			same(t, all, read)
			archives++
		}
	}
	if archives < 50 {
		t.Errorf("%d archives are read", archives)
	}
}

// same checks that l makes all from nothing, and changes nothing of it.
func same(t *testing.T, all *tree.Tree, l []api.Entry) {
	t.Helper()
	var again tree.Tree
	sameAll(t, &again, l)
	if !again.Same(all) {
		t.Fatalf("the members of\n%smake\n%s", seen(all), seen(&again))
	}
	sameAll(t, &again, l)
	if !again.Same(all) {
		t.Fatalf("the members of\n%smake, twice,\n%s", seen(all), seen(&again))
	}
}
