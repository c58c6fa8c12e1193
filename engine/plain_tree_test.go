package engine_test

// The abstract machine's tree (chapter 9): directories are lists of names as texts, files are lists of bytes, names are counted anew whenever they are asked for.

import "hartix/api"

const (
	pageSize  = 4096
	mostBytes = 262144
	mostNames = 32767
	mostNodes = 199
	rootIno   = 1
)

// plainEntry is a place for a name; the number 0: it is empty.
type plainEntry struct {
	ino  int
	name string
}

type plainNode struct {
	typ          int
	major, minor int16
	refs         int
	text         []byte       // a file's
	entries      []plainEntry // a directory's
}

type plainTree map[int]*plainNode

func newPlainTree() plainTree {
	return plainTree{rootIno: {typ: api.TypeDir, entries: []plainEntry{{rootIno, "."}, {rootIno, ".."}}}}
}

func (n *plainNode) size() int { return 16*len(n.entries) + len(n.text) }

func (n *plainNode) blocks() int { return (n.size() + pageSize - 1) / pageSize }

// bytes is what is read of the whole of it.
func (n *plainNode) bytes() []byte {
	all := append([]byte(nil), n.text...)
	for _, e := range n.entries {
		packed := make([]byte, 16)
		packed[0], packed[1] = byte(e.ino), byte(e.ino>>8)
		copy(packed[2:], e.name)
		all = append(all, packed...)
	}
	return all
}

func isDots(name string) bool { return name == "." || name == ".." }

// links counts names as the chapter's Words do.
func (x plainTree) links(ino int) int {
	n := 0
	if ino == rootIno {
		n++
	}
	for _, at := range x {
		for _, e := range at.entries {
			if e.ino == ino && !isDots(e.name) {
				n++
			}
		}
	}
	for _, e := range x[ino].entries {
		if e.ino != 0 && !isDots(e.name) && x[e.ino].typ == api.TypeDir {
			n++
		}
	}
	return n
}

// clean takes an inode away that nothing keeps.
func (x plainTree) clean(ino int) {
	if ino != rootIno && x.links(ino) == 0 && x[ino].refs == 0 {
		delete(x, ino)
	}
}

func (x plainTree) drop(ino int) {
	x[ino].refs--
	x.clean(ino)
}

// namesIn is P9.3, byte by byte.
func namesIn(path string) ([]string, bool) {
	if len(path) > 127 {
		return nil, false
	}
	var all []string
	inName := false
	for k := range len(path) {
		switch c := path[k]; {
		case c == 0:
			return nil, false
		case c == '/':
			inName = false
		case !inName:
			all = append(all, string([]byte{c}))
			inName = true
		case len(all[len(all)-1]) < 14:
			all[len(all)-1] += string([]byte{c})
		}
	}
	return all, true
}

// named gives the number behind a name, 0 if there is none.
func (n *plainNode) named(name string) int {
	for _, e := range n.entries {
		if e.ino != 0 && e.name == name {
			return e.ino
		}
	}
	return 0
}

func (x plainTree) along(at int, names []string) (int, api.Errno) {
	for _, name := range names {
		if x[at].typ != api.TypeDir {
			return 0, api.ErrTreeDir
		}
		if at = x[at].named(name); at == 0 {
			return 0, api.ErrTreeNone
		}
	}
	return at, api.OK
}

// find is P9.4.
func (x plainTree) find(cwd int, path string) (int, api.Errno) {
	names, ok := namesIn(path)
	if !ok {
		return 0, api.ErrTreePath
	}
	if path != "" && path[0] == '/' {
		cwd = rootIno
	}
	return x.along(cwd, names)
}

// parent is what the chapter says of Make, Link and Unlink.
func (x plainTree) parent(cwd int, path string) (*plainNode, int, string, api.Errno) {
	names, ok := namesIn(path)
	if !ok {
		return nil, 0, "", api.ErrTreePath
	}
	if len(names) == 0 || isDots(names[len(names)-1]) {
		return nil, 0, "", api.ErrTreeName
	}
	if path[0] == '/' {
		cwd = rootIno
	}
	at, errno := x.along(cwd, names[:len(names)-1])
	if errno != api.OK {
		return nil, 0, "", errno
	}
	if x[at].typ != api.TypeDir {
		return nil, 0, "", api.ErrTreeDir
	}
	return x[at], at, names[len(names)-1], api.OK
}

func (n *plainNode) emptyEntry() int {
	for k, e := range n.entries {
		if e.ino == 0 {
			return k
		}
	}
	return len(n.entries)
}

// room tells what is against another entry.
func (n *plainNode) room(free, demand int) api.Errno {
	if n.emptyEntry() == len(n.entries) {
		if n.size() == mostBytes {
			return api.ErrTreeFull
		}
		if n.size()%pageSize == 0 {
			demand++
		}
	}
	if free < demand {
		return api.ErrTreeRoom
	}
	return api.OK
}

func (n *plainNode) enter(e plainEntry) {
	k := n.emptyEntry()
	if k == len(n.entries) {
		n.entries = append(n.entries, plainEntry{})
	}
	n.entries[k] = e
}

// make is P9.5.
func (x plainTree) make(free, cwd int, path string, typ int, major, minor int16) (int, api.Errno) {
	up, at, name, errno := x.parent(cwd, path)
	if errno != api.OK {
		return 0, errno
	}
	ino := 1
	for x[ino] != nil {
		ino++
	}
	switch {
	case len(up.entries) == 0:
		return 0, api.ErrTreeGone
	case up.named(name) != 0:
		return 0, api.ErrTreeTaken
	case typ == api.TypeDir && x.links(at) == mostNames:
		return 0, api.ErrTreeLinks
	case ino > mostNodes:
		return 0, api.ErrTreeNodes
	}
	n, demand := &plainNode{typ: typ}, 0
	switch typ {
	case api.TypeDir:
		n.entries, demand = []plainEntry{{ino, "."}, {at, ".."}}, 1
	case api.TypeDev:
		n.major, n.minor = major, minor
	}
	if errno = up.room(free, demand); errno != api.OK {
		return 0, errno
	}
	up.enter(plainEntry{ino, name})
	x[ino] = n
	return ino, api.OK
}

// link is P9.6.
func (x plainTree) link(free, ino, cwd int, path string) api.Errno {
	if x[ino].typ == api.TypeDir {
		return api.ErrTreeDir
	}
	up, _, name, errno := x.parent(cwd, path)
	if errno != api.OK {
		return errno
	}
	switch {
	case len(up.entries) == 0:
		return api.ErrTreeGone
	case up.named(name) != 0:
		return api.ErrTreeTaken
	case x.links(ino) == mostNames:
		return api.ErrTreeLinks
	}
	if errno = up.room(free, 0); errno != api.OK {
		return errno
	}
	up.enter(plainEntry{ino, name})
	return api.OK
}

// unlink is P9.7.
func (x plainTree) unlink(cwd int, path string) api.Errno {
	up, _, name, errno := x.parent(cwd, path)
	if errno != api.OK {
		return errno
	}
	ino := up.named(name)
	if ino == 0 {
		return api.ErrTreeNone
	}
	for k, e := range x[ino].entries {
		if k > 1 && e.ino != 0 {
			return api.ErrTreeFull
		}
	}
	for k, e := range up.entries {
		if e.ino != 0 && e.name == name {
			up.entries[k] = plainEntry{}
		}
	}
	x[ino].entries = nil
	x.clean(ino)
	return api.OK
}

// write is P9.8.
func (n *plainNode) write(free, off int, b []byte) int {
	if n.typ != api.TypeFile || off > len(n.text) {
		return -1
	}
	b = b[:max(0, min(len(b), mostBytes-off, (n.blocks()+free)*pageSize-off))]
	grown := max(len(n.text), off+len(b))
	for len(n.text) < grown {
		n.text = append(n.text, 0)
	}
	copy(n.text[off:], b)
	return len(b)
}
