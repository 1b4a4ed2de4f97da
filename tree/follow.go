package tree

import (
	"strings"

	"revetment/api"
	"revetment/path"
)

// Follow returns where a name leads, by the symbolic links on its path; the empty
// text is the directory in which all names lie.
// Errors: ErrName above that one; ErrCycle for more than MaxLinks links; ErrMissing
// if nothing is there.
func (t *Tree) Follow(name string) (string, error) {
	at, ok := path.Clean(name)
	for links := 0; ok; links++ {
		soft, found := t.firstSoft(at)
		switch {
		case !found:
			return t.existing(at)
		case links == api.MaxLinks:
			return "", api.ErrCycle
		}
		// What is behind the link begins with a slash, if there is anything.
		at, ok = path.To(soft, t.files[soft].Link+at[len(soft):])
	}
	return "", api.ErrName
}

// firstSoft returns the shortest prefix of name, part by part, that is a symbolic
// link. Nothing lies in what is not there, so that it ends at the first such prefix.
func (t *Tree) firstSoft(name string) (string, bool) {
	parts := path.Parts(name)
	for i := range parts {
		prefix := strings.Join(parts[:i+1], "/")
		file, ok := t.all()[prefix]
		if !ok {
			break
		}
		if file.Kind == api.Soft {
			return prefix, true
		}
	}
	return "", false
}

// existing returns name. ErrMissing: it is neither empty nor there.
func (t *Tree) existing(name string) (string, error) {
	if _, ok := t.all()[name]; name != "" && !ok {
		return "", api.ErrMissing
	}
	return name, nil
}
