package tree_test

import (
	"fmt"
	"math/rand"
	"slices"
	"strings"
	"testing"

	"revetment/api"
	"revetment/tree"
)

// model is a tree as two lists: each name with the number of its file, and the
// files. What is done to it makes another one.
type model struct {
	names []named
	files []api.Node
}

type named struct {
	name string
	file int
}

func (m model) at(name string) int {
	return slices.IndexFunc(m.names, func(n named) bool { return n.name == name })
}

// dirs are the directories on the path of a name, the shortest one first.
func dirs(name string) []string {
	var l []string
	for i, c := range []byte(name) {
		if c == '/' {
			l = append(l, name[:i])
		}
	}
	return l
}

func inside(name, dir string) bool { return slices.Contains(dirs(name), dir) }

func validName(name string) bool {
	parts := strings.Split(name, "/")
	for _, part := range parts {
		if part == "" || part == "." || part == ".." {
			return false
		}
	}
	return len(name) <= 120 && len(parts) <= 12 && !strings.Contains(name, "\x00")
}

func validNode(n api.Node) bool {
	data, link, device := 0, 0, 0
	switch n.Kind {
	case '0':
		data = 4000
	case '2':
		link = 120
	case '3', '4':
		device = 1<<21 - 1
	case '5', '6':
	default:
		return false
	}
	for _, c := range []struct{ value, least, most int }{
		{len(n.Data), 0, data},
		{len(n.Link), min(1, link), link},
		{n.Major, 0, device},
		{n.Minor, 0, device},
		{n.Mode, 0, 0o7777},
		{n.Uid, 0, 1<<40 - 1},
		{n.Gid, 0, 1<<40 - 1},
		{n.Time.Sec, -1 << 40, 1 << 40},
		{n.Time.Nano, 0, 999_999_999},
		{strings.Count(n.Link, "\x00"), 0, 0},
	} {
		if c.value < c.least || c.value > c.most {
			return false
		}
	}
	return true
}

func (m model) room(name string, most int) api.Errno {
	if !validName(name) {
		return api.ErrName
	}
	if m.at(name) >= 0 {
		return api.ErrTwice
	}
	missing := false
	for _, dir := range dirs(name) {
		i := m.at(dir)
		if i >= 0 && m.files[m.names[i].file].Kind != api.Dir {
			return api.ErrState
		}
		missing = i < 0
	}
	if missing {
		return api.ErrMissing
	}
	if len(m.names) >= most {
		return api.ErrFull
	}
	return api.OK
}

func (m model) with(name string, file int) model {
	return model{append(slices.Clone(m.names), named{name, file}), m.files}
}

func (m model) changed(file int, n api.Node) model {
	files := slices.Clone(m.files)
	files[file] = n
	return model{m.names, files}
}

// do is the tree behind an action, or the error.
func (m model) do(a api.Act) (model, api.Errno) {
	if a.What == api.Make {
		if !validNode(a.Node) {
			return m, api.ErrArg
		}
		if e := m.room(a.Name, 60); e != api.OK {
			return m, e
		}
		return model{m.names, append(slices.Clone(m.files), a.Node)}.with(a.Name, len(m.files)), api.OK
	}
	if a.What < 1 || a.What > 8 {
		return m, api.ErrArg
	}
	i := m.at(a.Name)
	if i < 0 {
		return m, api.ErrMissing
	}
	number := m.names[i].file
	n := m.files[number]
	switch a.What {
	case api.Again:
		if n.Kind == api.Dir {
			return m, api.ErrState
		}
		if e := m.room(a.To, 60); e != api.OK {
			return m, e
		}
		return m.with(a.To, number), api.OK
	case api.Remove:
		if slices.ContainsFunc(m.names, func(o named) bool { return inside(o.name, a.Name) }) {
			return m, api.ErrState
		}
		return model{slices.Delete(slices.Clone(m.names), i, i+1), m.files}, api.OK
	case api.Move:
		return m.move(a.Name, a.To)
	case api.Put:
		if n.Kind != api.File {
			return m, api.ErrState
		}
		if len(a.To) > 4000 {
			return m, api.ErrLimit
		}
		n.Data = a.To
	case api.Chmod:
		n.Mode = a.N
	case api.Chown:
		n.Uid, n.Gid = a.Node.Uid, a.Node.Gid
	case api.Touch:
		n.Time = a.Node.Time
	}
	if !validNode(n) {
		return m, api.ErrArg
	}
	return m.changed(number, n), api.OK
}

func (m model) move(name, to string) (model, api.Errno) {
	if to == name || strings.HasPrefix(to, name+"/") {
		return m, api.ErrCycle
	}
	if e := m.room(to, 1<<30); e != api.OK {
		return m, e
	}
	names := slices.Clone(m.names)
	for i, n := range names {
		if n.name == name || inside(n.name, name) {
			names[i].name = strings.Replace(n.name, name, to, 1)
			if !validName(names[i].name) {
				return m, api.ErrName
			}
		}
	}
	return model{names, m.files}, api.OK
}

// clean goes from the right to the left, where it is known how many parts go.
func clean(name string) (string, bool) {
	gone, kept := 0, []string{}
	for _, part := range slices.Backward(strings.Split(name, "/")) {
		switch {
		case part == "" || part == ".":
		case part == "..":
			gone++
		case gone > 0:
			gone--
		default:
			kept = append([]string{part}, kept...)
		}
	}
	return strings.Join(kept, "/"), gone == 0
}

// follow is by steps left: one for each link.
func (m model) follow(name string, left int) (string, api.Errno) {
	name, ok := clean(name)
	if !ok {
		return "", api.ErrName
	}
	for _, prefix := range append(dirs(name), name) {
		i := m.at(prefix)
		if i < 0 || m.files[m.names[i].file].Kind != api.Soft {
			continue
		}
		if left == 0 {
			return "", api.ErrCycle
		}
		link := m.files[m.names[i].file].Link + "/" + name[min(len(prefix)+1, len(name)):]
		if up := dirs(prefix); link[0] != '/' && len(up) > 0 {
			link = up[len(up)-1] + "/" + link
		}
		return m.follow(link, left-1)
	}
	if name != "" && m.at(name) < 0 {
		return "", api.ErrMissing
	}
	return name, api.OK
}

// seen is what seen tells of the tree.
func (m model) seen() string {
	names := slices.Clone(m.names)
	// A valid name holds no zero byte, which is less than each byte of a part.
	key := func(n named) string { return strings.ReplaceAll(n.name, "/", "\x00") }
	slices.SortFunc(names, func(a, b named) int { return strings.Compare(key(a), key(b)) })
	all := ""
	for _, n := range names {
		alike, links := "", 0
		for _, o := range names {
			if o.file == n.file {
				alike += fmt.Sprintf(" %q", o.name)
				links++
			}
		}
		all += fmt.Sprintf("%q %+v <nil> %d%s\n", n.name, m.files[n.file], links, alike)
	}
	return all
}

// drawnName is of few parts, so that names meet often.
func drawnName(r *rand.Rand) string {
	name := string("abcd"[r.Intn(4)])
	for r.Intn(5) < 2 {
		name += "/" + string("abcd"[r.Intn(4)])
	}
	switch r.Intn(40) {
	case 0:
		return "../" + name
	case 1:
		return name + "/"
	case 2:
		return name + "/" + repeat("n", 110+r.Intn(10))
	case 3:
		return name + repeat("/a", r.Intn(12))
	case 4:
		return name + "." + name
	}
	return name
}

func drawnNode(r *rand.Rand) api.Node {
	n := ofKind("0002345555556"[r.Intn(13)])
	n.Mode, n.Uid, n.Gid = r.Intn(2), r.Intn(2), r.Intn(2)
	switch {
	case n.Kind == api.File:
		n.Data = repeat("x", r.Intn(2))
	case n.Kind == api.Soft:
		n.Link = []string{"", "/", "../", "../../", "./"}[r.Intn(5)] + drawnName(r)
	case n.Kind != api.Dir && n.Kind != api.Fifo:
		n.Major = r.Intn(2)
	}
	switch r.Intn(60) {
	case 0:
		n.Mode = 0o7777 + r.Intn(2)
	case 1:
		n.Data = repeat("d", 3999+r.Intn(3))
	case 2:
		n.Minor = 1<<21 - r.Intn(2)
	case 3:
		n.Time = api.Time{Sec: 1 << 40, Nano: r.Intn(3) - 1}
	case 4:
		n.Link = repeat("l", 119+r.Intn(3))
	}
	return n
}

func drawnAct(r *rand.Rand, m model) api.Act {
	a := api.Act{What: r.Intn(10), Name: drawnName(r), To: drawnName(r), N: r.Intn(0o10000), Node: drawnNode(r)}
	if r.Intn(3) == 0 {
		a.What = api.Make
	}
	if len(m.names) > 0 && r.Intn(2) == 0 {
		a.Name = m.names[r.Intn(len(m.names))].name
	}
	if a.What == api.Make && r.Intn(2) == 0 {
		a.Name += "/" + drawnName(r)
	}
	if a.What == api.Put && r.Intn(2) == 0 {
		a.To = repeat("d", 3999+r.Intn(3))
	}
	if r.Intn(20) == 0 {
		a.N, a.Node.Uid, a.Node.Time.Nano = 0o10000, 1<<40, -1
	}
	return a
}

// consistent checks that each name lies in directories that are there.
func consistent(t *testing.T, all *tree.Tree) {
	t.Helper()
	for _, name := range all.Names() {
		for _, dir := range dirs(name) {
			if n, err := all.Get(dir); err != nil || n.Kind != api.Dir {
				t.Fatalf("%q lies in %q, which is %+v, %v", name, dir, n, err)
			}
		}
		if n, err := all.Get(name); err != nil || !tree.Right(n) {
			t.Fatalf("%q is %+v, %v", name, n, err)
		}
	}
}

// follows stands for Follow among the actions that were met.
const follows = 100

func TestDrawn(t *testing.T) {
	r := rand.New(rand.NewSource(1))
	met := map[[2]int]int{}
	for range 300 {
		var all tree.Tree
		var m model
		for range 100 {
			a := drawnAct(r, m)
			next, want := m.do(a)
			err := all.Do(a)
			if api.Tell(err) != want {
				t.Fatalf("Do(%+.300v) of\n%s: error %v, want %d", a, m.seen(), err, want)
			}
			if got, wantSeen := seen(&all), next.seen(); got != wantSeen {
				t.Fatalf("Do(%+.300v) of\n%smakes\n%swant\n%s", a, m.seen(), got, wantSeen)
			}
			m = next
			met[[2]int{a.What, int(want)}]++
		}
		consistent(t, &all)
		for range 30 {
			name := drawnName(r) + []string{"", "/" + drawnName(r)}[r.Intn(2)]
			want, wantErr := m.follow(name, 8)
			sameFollow(t, &all, name, want, wantErr)
			met[[2]int{follows, int(wantErr)}]++
		}
	}
	for what, errs := range map[int][]api.Errno{
		0:          {api.ErrArg},
		api.Make:   {api.OK, api.ErrArg, api.ErrName, api.ErrTwice, api.ErrState, api.ErrMissing},
		api.Again:  {api.OK, api.ErrMissing, api.ErrState, api.ErrName, api.ErrTwice},
		api.Remove: {api.OK, api.ErrMissing, api.ErrState},
		api.Move:   {api.OK, api.ErrMissing, api.ErrCycle, api.ErrName, api.ErrTwice, api.ErrState},
		api.Put:    {api.OK, api.ErrMissing, api.ErrState, api.ErrLimit},
		api.Chmod:  {api.OK, api.ErrMissing, api.ErrArg},
		api.Chown:  {api.OK, api.ErrMissing, api.ErrArg},
		api.Touch:  {api.OK, api.ErrMissing, api.ErrArg},
		9:          {api.ErrArg},
		follows:    {api.OK, api.ErrName, api.ErrMissing, api.ErrCycle},
	} {
		for _, err := range errs {
			if n := met[[2]int{what, int(err)}]; n < 20 {
				t.Errorf("action %d with error %d is drawn %d times", what, err, n)
			}
		}
	}
}

// TestDrawnSame does a little to a copy: the trees are the same if all is told of
// both alike.
func TestDrawnSame(t *testing.T) {
	r := rand.New(rand.NewSource(2))
	met := map[bool]int{}
	for range 1000 {
		var all tree.Tree
		for range 40 {
			all.Do(drawnAct(r, model{}))
		}
		before := seen(&all)
		own := all.Copy()
		for range 3 {
			a := drawnAct(r, model{})
			if names := own.Names(); len(names) > 0 {
				a.Name = names[r.Intn(len(names))]
			}
			own.Do(a)
			want := seen(own) == before
			sameSame(t, fmt.Sprintf("%+.300v", a), &all, own, want)
			sameSame(t, "another copy", own, own.Copy(), true)
			met[want]++
		}
		if after := seen(&all); after != before {
			t.Fatalf("the tree changes with its copy: %s, was %s", after, before)
		}
	}
	if met[true] < 100 || met[false] < 100 {
		t.Errorf("drawn: %v", met)
	}
}
