package pack

import (
	"strings"

	"revetment/api"
	"revetment/hole"
	"revetment/member"
	"revetment/path"
	"revetment/tree"
)

// All extracts members, one after another, and returns which of them had an error,
// and its number.
func All(t *tree.Tree, l []api.Entry) []api.Diff {
	var failed []api.Diff
	for i, e := range l {
		if err := Into(t, e); err != nil {
			failed = append(failed, api.Diff{Which: i, What: int(api.Tell(err))})
		}
	}
	return failed
}

// Into extracts a member; after an error nothing has changed.
// Errors: ErrArg for a member that is not valid; ErrName for a name, or a hard link,
// that leads above the beginning or is not valid; ErrMissing or ErrState for a hard
// link to what is not there, or to a directory; ErrState if something on the path
// of the name is no directory, or the name is a directory and the member is none;
// ErrFull if there is no room for it and the directories that it needs.
func Into(t *tree.Tree, e api.Entry) error {
	if t == nil || !member.Right(e) {
		return api.ErrArg
	}
	name, ok := path.Clean(e.Name)
	switch {
	case !ok:
		return api.ErrName
	case name == "" && e.Kind == api.Dir:
		return nil
	case !path.Right(name):
		return api.ErrName
	case e.Kind == api.Hard:
		return link(t, name, e.Link)
	}
	return whole(t, func(changed *tree.Tree) error {
		if err := clearWay(changed, name, e.Kind); err != nil {
			return err
		}
		return put(changed, name, node(e))
	})
}

// link makes name another name of the file that a hard link leads to.
func link(t *tree.Tree, name, to string) error {
	first, ok := path.Clean(to)
	switch {
	case !ok:
		return api.ErrName
	case first == "":
		return api.ErrMissing
	case !path.Right(first):
		return api.ErrName
	}
	file, err := t.Get(first)
	switch {
	case err != nil:
		return err
	case file.Kind == api.Dir:
		return api.ErrState
	case t.Alike(name, first):
		return nil
	}
	return whole(t, func(changed *tree.Tree) error {
		if err := clearWay(changed, name, api.Hard); err != nil {
			return err
		}
		return changed.Do(api.Act{What: api.Again, Name: first, To: name})
	})
}

// whole makes all of a change, or, if it has an error, nothing of it.
func whole(t *tree.Tree, change func(*tree.Tree) error) error {
	changed := t.Copy()
	if err := change(changed); err != nil {
		return err
	}
	*t = *changed
	return nil
}

// clearWay creates the directories on the path of name, as far as they are missing,
// and removes what has the name, unless it is a directory.
// Errors: ErrState if something on the path is no directory, or if name is one and
// is to be of another kind; ErrFull.
func clearWay(t *tree.Tree, name string, kind byte) error {
	parts := path.Parts(name)
	for i := range len(parts) - 1 {
		if err := enter(t, strings.Join(parts[:i+1], "/")); err != nil {
			return err
		}
	}
	file, err := t.Get(name)
	switch {
	case err != nil: // Nothing is in the way.
		return nil
	case file.Kind != api.Dir:
		return t.Do(api.Act{What: api.Remove, Name: name})
	case kind != api.Dir:
		return api.ErrState
	}
	return nil
}

// enter creates the directory name, unless it is there. ErrState: something else is.
func enter(t *tree.Tree, name string) error {
	file, err := t.Get(name)
	switch {
	case err != nil:
		return t.Do(api.Act{What: api.Make, Name: name, Node: api.Node{Kind: api.Dir, Mode: 0o755}})
	case file.Kind != api.Dir:
		return api.ErrState
	}
	return nil
}

// put creates the file name, to which the way is clear. A directory that is there
// stays, with what lies in it.
func put(t *tree.Tree, name string, n api.Node) error {
	if _, err := t.Get(name); err != nil {
		return t.Do(api.Act{What: api.Make, Name: name, Node: n})
	}
	for _, what := range []int{api.Chmod, api.Chown, api.Touch} {
		if err := t.Do(api.Act{What: what, Name: name, N: n.Mode, Node: n}); err != nil {
			return err
		}
	}
	return nil
}

// node returns the file that a valid member describes.
func node(e api.Entry) api.Node {
	data := e.Data
	if member.Sparse(e) {
		// The pieces of a valid member are valid.
		data, _ = hole.Put(e.Data, e.Map, e.Size)
	}
	return api.Node{
		Kind:  e.Kind,
		Mode:  e.Mode,
		Uid:   e.Uid,
		Gid:   e.Gid,
		Time:  e.Time,
		Data:  data,
		Link:  e.Link,
		Major: e.Major,
		Minor: e.Minor,
	}
}
