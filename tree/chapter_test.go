package tree_test

// What the chapter says, read a second time: a tree without frames and without counts. Directories are lists of names as texts, files are texts, and Links are counted anew whenever they are asked for, so that the tests do not lean on the code they test.

import (
	"hartix/api"
)

const (
	page     = 4096
	most     = 262144 // bytes of an inode
	dir      = 1
	file     = 2
	device   = 3
	maxNames = 32767
	numbers  = 199 // of inodes
	mostHeld = 1<<31 - 1
)

// slot is a place for an entry; the number 0: it is empty.
type slot struct {
	ino  int
	name string
}

type node struct {
	typ          int
	major, minor int16
	refs         int
	text         []byte // a file's
	slots        []slot // a directory's
}

// plain is what a tree must be.
type plain struct {
	nodes map[int]*node
}

func wantNew() *plain {
	return &plain{nodes: map[int]*node{1: {typ: dir, slots: []slot{{1, "."}, {1, ".."}}}}}
}

func (n *node) size() int { return 16*len(n.slots) + len(n.text) }

func (n *node) blocks() int {
	blocks := 0
	for at := 0; at < n.size(); at += page {
		blocks++
	}
	return blocks
}

// bytes is what Read tells of the whole of it.
func (n *node) bytes() []byte {
	all := append([]byte{}, n.text...)
	for _, s := range n.slots {
		all = append(all, packed(s)...)
	}
	return all
}

// packed is P9.1.
func packed(s slot) []byte {
	all := []byte{byte(s.ino & 255), byte(s.ino >> 8 & 255)}
	for k := range 14 {
		if k < len(s.name) {
			all = append(all, s.name[k])
		} else {
			all = append(all, 0)
		}
	}
	return all
}

func isDots(name string) bool { return name == "." || name == ".." }

// links counts names as the chapter's Words do.
func (m *plain) links(ino int) int {
	n := 0
	if ino == 1 {
		n++
	}
	for _, at := range m.nodes {
		for _, s := range at.slots {
			if s.ino == ino && !isDots(s.name) {
				n++
			}
		}
	}
	for _, s := range m.nodes[ino].slots {
		if s.ino != 0 && !isDots(s.name) && m.nodes[s.ino].typ == dir {
			n++
		}
	}
	return n
}

// clean takes an inode away that nothing keeps.
func (m *plain) clean(ino int) {
	if ino != 1 && m.links(ino) == 0 && m.nodes[ino].refs == 0 {
		delete(m.nodes, ino)
	}
}

// pieces is P9.3, byte by byte.
func pieces(path string) ([]string, bool) {
	if len(path) > 127 {
		return nil, false
	}
	var all []string
	inName := false
	for k := range len(path) {
		switch c := path[k]; {
		case c == 0:
			return nil, false
		case c == '/':
			inName = false
		case !inName:
			all = append(all, string([]byte{c}))
			inName = true
		case len(all[len(all)-1]) < 14:
			all[len(all)-1] += string([]byte{c})
		}
	}
	return all, true
}

// named gives the number behind a name, 0 if there is none.
func (n *node) named(name string) int {
	for _, s := range n.slots {
		if s.ino != 0 && s.name == name {
			return s.ino
		}
	}
	return 0
}

// along takes name by name.
func (m *plain) along(at int, names []string) (int, api.Errno) {
	if len(names) == 0 {
		return at, api.OK
	}
	if m.nodes[at].typ != dir {
		return 0, api.ErrTreeDir
	}
	next := m.nodes[at].named(names[0])
	if next == 0 {
		return 0, api.ErrTreeNone
	}
	return m.along(next, names[1:])
}

// wantFind is P9.4.
func (m *plain) wantFind(cwd int, path string) (int, api.Errno) {
	if m.nodes[cwd] == nil {
		return 0, api.ErrTreeIno
	}
	names, ok := pieces(path)
	if !ok {
		return 0, api.ErrTreePath
	}
	if path != "" && path[0] == '/' {
		cwd = 1
	}
	return m.along(cwd, names)
}

// parent is what the chapter says of Make, Link and Unlink.
func (m *plain) parent(cwd int, path string) (int, string, api.Errno) {
	if m.nodes[cwd] == nil {
		return 0, "", api.ErrTreeIno
	}
	names, ok := pieces(path)
	if !ok {
		return 0, "", api.ErrTreePath
	}
	if len(names) == 0 || isDots(names[len(names)-1]) {
		return 0, "", api.ErrTreeName
	}
	if path[0] == '/' {
		cwd = 1
	}
	at, errno := m.along(cwd, names[:len(names)-1])
	if errno != api.OK {
		return 0, "", errno
	}
	if m.nodes[at].typ != dir {
		return 0, "", api.ErrTreeDir
	}
	return at, names[len(names)-1], api.OK
}

// emptySlot gives the place of the first empty entry; the number of all, if there is none.
func (n *node) emptySlot() int {
	for k, s := range n.slots {
		if s.ino == 0 {
			return k
		}
	}
	return len(n.slots)
}

// wantPlace tells what is against another entry: ErrTreeFull, ErrTreeRoom.
func (n *node) wantPlace(free, demand int) api.Errno {
	if n.emptySlot() == len(n.slots) {
		if n.size() == most {
			return api.ErrTreeFull
		}
		if n.size()%page == 0 {
			demand++
		}
	}
	if free < demand {
		return api.ErrTreeRoom
	}
	return api.OK
}

func (n *node) enter(s slot) {
	k := n.emptySlot()
	if k == len(n.slots) {
		n.slots = append(n.slots, slot{})
	}
	n.slots[k] = s
}

// wantMake is P9.5.
func (m *plain) wantMake(free, cwd int, path string, typ int, major, minor int16) (int, api.Errno) {
	at, name, errno := m.parent(cwd, path)
	if errno != api.OK {
		return 0, errno
	}
	if typ < 1 || typ > 3 {
		return 0, api.ErrTreeType
	}
	up := m.nodes[at]
	if len(up.slots) == 0 {
		return 0, api.ErrTreeGone
	}
	if up.named(name) != 0 {
		return 0, api.ErrTreeTaken
	}
	if typ == dir && m.links(at) == maxNames {
		return 0, api.ErrTreeLinks
	}
	ino := 1
	for m.nodes[ino] != nil {
		ino++
	}
	if ino > numbers {
		return 0, api.ErrTreeNodes
	}
	n, demand := &node{typ: typ}, 0
	switch typ {
	case dir:
		n.slots, demand = []slot{{ino, "."}, {at, ".."}}, 1
	case device:
		n.major, n.minor = major, minor
	}
	if errno = up.wantPlace(free, demand); errno != api.OK {
		return 0, errno
	}
	up.enter(slot{ino, name})
	m.nodes[ino] = n
	return ino, api.OK
}

// wantLink is P9.6.
func (m *plain) wantLink(free, ino, cwd int, path string) api.Errno {
	if m.nodes[ino] == nil {
		return api.ErrTreeIno
	}
	if m.nodes[ino].typ == dir {
		return api.ErrTreeDir
	}
	at, name, errno := m.parent(cwd, path)
	if errno != api.OK {
		return errno
	}
	up := m.nodes[at]
	switch {
	case len(up.slots) == 0:
		return api.ErrTreeGone
	case up.named(name) != 0:
		return api.ErrTreeTaken
	case m.links(ino) == maxNames:
		return api.ErrTreeLinks
	}
	if errno = up.wantPlace(free, 0); errno != api.OK {
		return errno
	}
	up.enter(slot{ino, name})
	return api.OK
}

// wantUnlink is P9.7.
func (m *plain) wantUnlink(cwd int, path string) api.Errno {
	at, name, errno := m.parent(cwd, path)
	if errno != api.OK {
		return errno
	}
	up := m.nodes[at]
	ino := up.named(name)
	if ino == 0 {
		return api.ErrTreeNone
	}
	n := m.nodes[ino]
	for k, s := range n.slots {
		if k > 1 && s.ino != 0 {
			return api.ErrTreeFull
		}
	}
	for k, s := range up.slots {
		if s.name == name {
			up.slots[k] = slot{}
		}
	}
	n.slots = nil
	m.clean(ino)
	return api.OK
}

// wantRead and wantWrite are P9.8.
func (m *plain) wantRead(ino, off, n int) []byte {
	if m.nodes[ino] == nil || m.nodes[ino].typ == device || off < 0 || n < 0 {
		return nil
	}
	var all []byte
	for k, c := range m.nodes[ino].bytes() {
		if k >= off && len(all) < n {
			all = append(all, c)
		}
	}
	return all
}

func (m *plain) wantWrite(free, ino, off int, b []byte) int {
	n := m.nodes[ino]
	if n == nil || n.typ != file || off < 0 || off > len(n.text) {
		return -1
	}
	room := (n.blocks() + free) * page
	for k, c := range b {
		at := off + k
		if at == most || at == room {
			return k
		}
		if at == len(n.text) {
			n.text = append(n.text, 0)
		}
		n.text[at] = c
	}
	return len(b)
}

func (m *plain) wantTrunc(ino int) api.Errno {
	switch n := m.nodes[ino]; {
	case n == nil:
		return api.ErrTreeIno
	case n.typ != file:
		return api.ErrTreeDir
	default:
		n.text = nil
		return api.OK
	}
}

// wantHold and wantDrop are P9.9.
func (m *plain) wantHold(ino int) api.Errno {
	switch n := m.nodes[ino]; {
	case n == nil:
		return api.ErrTreeIno
	case n.refs == mostHeld:
		return api.ErrTreeLinks
	default:
		n.refs++
		return api.OK
	}
}

func (m *plain) wantDrop(ino int) api.Errno {
	switch n := m.nodes[ino]; {
	case n == nil:
		return api.ErrTreeIno
	case n.refs == 0:
		return api.ErrArg
	default:
		n.refs--
		m.clean(ino)
		return api.OK
	}
}

// wantLook is P9.10, but for the blocks.
func (m *plain) wantLook(ino int) api.InodeLook {
	n := m.nodes[ino]
	if n == nil {
		return api.InodeLook{}
	}
	return api.InodeLook{Ino: ino, Type: n.typ, Major: n.major, Minor: n.minor, Links: m.links(ino), Refs: n.refs, Size: n.size()}
}

func (m *plain) wantStat(ino int) api.Stat {
	n := m.nodes[ino]
	if n == nil {
		return api.Stat{}
	}
	return api.Stat{Dev: 1, Ino: uint32(ino), Type: int16(n.typ), Nlink: int16(m.links(ino)), Size: uint64(n.size())}
}

func (m *plain) wantList(ino int) []api.Dirent {
	if m.nodes[ino] == nil {
		return nil
	}
	var all []api.Dirent
	for _, s := range m.nodes[ino].slots {
		if s.ino != 0 {
			all = append(all, api.Dirent{Ino: s.ino, Name: s.name})
		}
	}
	return all
}
