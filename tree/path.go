package tree

import (
	"strings"

	"hartix/api"
)

// Split cuts a path into names (P9.3).
func Split(path string) ([]string, bool) {
	if len(path) >= api.MaxPath || strings.IndexByte(path, 0) >= 0 {
		return nil, false
	}
	var names []string
	for name := range strings.SplitSeq(path, "/") {
		if name != "" {
			names = append(names, name[:min(len(name), api.MaxName)])
		}
	}
	return names, true
}

// Find follows a path (P9.4).
func (t *Tree) Find(cwd int, path string) (int, api.Errno) {
	from, names, errno := t.start(cwd, path)
	if errno != api.OK {
		return 0, errno
	}
	return t.walk(from, names)
}

// start gives the inode at which a path begins, and its names.
func (t *Tree) start(cwd int, path string) (int, []string, api.Errno) {
	if _, errno := t.get(cwd); errno != api.OK {
		return 0, nil, errno
	}
	names, ok := Split(path)
	switch {
	case !ok:
		return 0, nil, api.ErrTreePath
	case strings.HasPrefix(path, "/"):
		return api.RootIno, names, api.OK
	}
	return cwd, names, api.OK
}

// walk goes from an inode along the names.
func (t *Tree) walk(ino int, names []string) (int, api.Errno) {
along:
	for _, name := range names {
		dir, errno := t.directory(ino)
		if errno != api.OK {
			return 0, errno
		}
		sought := pad(name)
		for _, e := range t.entries(dir) {
			if e.has(sought) {
				ino = e.ino
				continue along
			}
		}
		return 0, api.ErrTreeNone
	}
	return ino, api.OK
}

func (t *Tree) directory(ino int) (*inode, api.Errno) {
	n, errno := t.get(ino)
	if errno != api.OK || n.typ != api.TypeDir {
		return nil, api.ErrTreeDir
	}
	return n, api.OK
}

// spot is where the last name of a path stands, or would stand.
type spot struct {
	parent int
	dir    *inode // the parent's
	name   string
	named  int // the inode that has the name; 0: none has
	at     int // the offset of the entry
}

// spotOf gives the spot of what a path makes or takes away.
func (t *Tree) spotOf(cwd int, path string) (spot, api.Errno) {
	from, names, errno := t.start(cwd, path)
	if errno != api.OK {
		return spot{}, errno
	}
	last := len(names) - 1
	if last < 0 || names[last] == "." || names[last] == ".." {
		return spot{}, api.ErrTreeName
	}
	parent, errno := t.walk(from, names[:last])
	if errno != api.OK {
		return spot{}, errno
	}
	dir, errno := t.directory(parent)
	if errno != api.OK {
		return spot{}, errno
	}
	named, at := t.look(dir, names[last])
	return spot{parent: parent, dir: dir, name: names[last], named: named, at: at}, api.OK
}

// look gives the inode that has a name in a directory, and where its entry is; if none has it, where its entry would be: the first that is empty, else behind the last.
func (t *Tree) look(dir *inode, name string) (named, at int) {
	sought := pad(name)
	empty := dir.size
	for off, e := range t.entries(dir) {
		switch {
		case e.has(sought):
			return e.ino, off
		case e.ino == 0:
			empty = min(empty, off)
		}
	}
	return 0, empty
}
