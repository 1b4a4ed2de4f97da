package tree

import (
	"revetment/api"
	"revetment/path"
)

// Do performs an action; after an error nothing has changed.
// Errors: ErrArg for an unknown action, or for a file that is not valid or would not
// be; ErrMissing if there is no such name; those of room for a new name; ErrState for
// another name of a directory, a directory to be removed with names in it, or bytes
// of what is no File; ErrCycle if a name would lie in itself; ErrName if a name in it
// would not be valid; ErrLimit for too many bytes.
func (t *Tree) Do(a api.Act) error {
	if t == nil {
		return api.ErrArg
	}
	if a.What == api.Make {
		return t.create(a.Name, a.Node)
	}
	if a.What < api.Again || a.What > api.Touch {
		return api.ErrArg
	}
	file, ok := t.files[a.Name]
	if !ok {
		return api.ErrMissing
	}
	switch a.What {
	case api.Again:
		return t.link(file, a.To)
	case api.Remove:
		return t.remove(a.Name)
	case api.Move:
		return t.move(a.Name, a.To)
	case api.Put:
		return put(file, a.To)
	case api.Chmod:
		return alter(file, func(n *api.Node) { n.Mode = a.N })
	case api.Chown:
		return alter(file, func(n *api.Node) { n.Uid, n.Gid = a.Node.Uid, a.Node.Gid })
	default: // Touch
		return alter(file, func(n *api.Node) { n.Time = a.Node.Time })
	}
}

// place reports whether name is free, and a directory is there for it. ErrName: it
// is not valid; ErrTwice: it exists; ErrState: something on its path is no
// directory; ErrMissing: its directory does not exist.
func (t *Tree) place(name string) error {
	if !path.Right(name) {
		return api.ErrName
	}
	if _, ok := t.files[name]; ok {
		return api.ErrTwice
	}
	dir, _ := path.Up(name)
	for above := dir; above != ""; above, _ = path.Up(above) {
		if file, ok := t.files[above]; ok && file.Kind != api.Dir {
			return api.ErrState
		}
	}
	if _, ok := t.files[dir]; dir != "" && !ok {
		return api.ErrMissing
	}
	return nil
}

// add gives a file a name more. ErrFull: there are MaxNodes names; before, the
// errors of place.
func (t *Tree) add(name string, file *api.Node) error {
	if err := t.place(name); err != nil {
		return err
	}
	if len(t.files) >= api.MaxNodes {
		return api.ErrFull
	}
	if t.files == nil {
		t.files = map[string]*api.Node{}
	}
	t.files[name] = file
	return nil
}

func (t *Tree) create(name string, n api.Node) error {
	if !Right(n) {
		return api.ErrArg
	}
	return t.add(name, &n)
}

func (t *Tree) link(file *api.Node, to string) error {
	if file.Kind == api.Dir {
		return api.ErrState
	}
	return t.add(to, file)
}

func (t *Tree) remove(name string) error {
	for other := range t.files {
		if other != name && path.In(other, name) {
			return api.ErrState
		}
	}
	delete(t.files, name)
	return nil
}

// move renames name and what lies in it.
func (t *Tree) move(name, to string) error {
	if path.In(to, name) {
		return api.ErrCycle
	}
	if err := t.place(to); err != nil {
		return err
	}
	files := map[string]*api.Node{}
	for other, file := range t.files {
		if path.In(other, name) {
			other = to + other[len(name):]
			if !path.Right(other) {
				return api.ErrName
			}
		}
		files[other] = file
	}
	t.files = files
	return nil
}

func put(file *api.Node, data string) error {
	if file.Kind != api.File {
		return api.ErrState
	}
	if len(data) > api.MaxData {
		return api.ErrLimit
	}
	file.Data = data
	return nil
}

// alter changes a file for all of its names. ErrArg: it would not be valid.
func alter(file *api.Node, change func(*api.Node)) error {
	changed := *file
	change(&changed)
	if !Right(changed) {
		return api.ErrArg
	}
	*file = changed
	return nil
}
