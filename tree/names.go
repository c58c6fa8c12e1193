package tree

import "hartix/api"

// Make makes a file, directory or device (P9.5).
func (t *Tree) Make(cwd int, path string, typ int, major, minor int16) (ino int, errno api.Errno) {
	s, errno := t.spotOf(cwd, path)
	if errno == api.OK {
		errno = s.mayMake(typ)
	}
	if errno != api.OK {
		return 0, errno
	}
	ino = t.take(typ, major, minor)
	if ino == 0 {
		return 0, api.ErrTreeNodes
	}
	defer func() {
		if errno != api.OK {
			t.inodes[ino] = inode{}
			ino = 0
		}
	}()
	isDir := typ == api.TypeDir
	errno = t.enter(s, ino, isDir)
	if errno == api.OK && isDir {
		t.putDots(ino, s.parent)
		s.dir.links++
	}
	return ino, errno
}

// mayMake tells what of the type and of the spot is against making one there.
func (s spot) mayMake(typ int) api.Errno {
	if typ != api.TypeDir && typ != api.TypeFile && typ != api.TypeDev {
		return api.ErrTreeType
	}
	errno := s.mayName()
	if errno == api.OK && typ == api.TypeDir && s.dir.links == api.MaxLinks-1 {
		return api.ErrTreeLinks
	}
	return errno
}

// mayName tells what of the spot is against a new name there.
func (s spot) mayName() api.Errno {
	switch {
	case s.dir.isGone():
		return api.ErrTreeGone
	case s.named != 0:
		return api.ErrTreeTaken
	}
	return api.OK
}

// take makes the free inode with the lowest number one with a name, and tells its number; 0, if none is free.
func (t *Tree) take(typ int, major, minor int16) int {
	for ino := api.RootIno; ino < api.MaxInodes; ino++ {
		n := &t.inodes[ino]
		if *n != (inode{}) {
			continue
		}
		*n = inode{typ: typ, links: 1}
		if typ == api.TypeDev {
			n.major, n.minor = major, minor
		}
		return ino
	}
	return 0
}

// enter lays an entry down. Its demand is a frame that the directory grows into, and one more, if another one is needed beside it.
func (t *Tree) enter(s spot, ino int, another bool) api.Errno {
	grows := s.at == s.dir.size
	demand := 0
	if grows && s.at%api.PageSize == 0 {
		demand++
	}
	if another {
		demand++
	}
	switch {
	case grows && s.at == maxSize:
		return api.ErrTreeFull
	case t.memory.Count() < demand:
		return api.ErrTreeRoom
	}
	t.put(s.dir, s.at, entry{ino, pad(s.name)}.bytes())
	return api.OK
}

// Link gives an inode another name (P9.6).
func (t *Tree) Link(ino, cwd int, path string) api.Errno {
	n, errno := t.get(ino)
	switch {
	case errno != api.OK:
		return errno
	case n.typ == api.TypeDir:
		return api.ErrTreeDir
	}
	s, errno := t.spotOf(cwd, path)
	if errno == api.OK {
		errno = s.mayName()
	}
	switch {
	case errno != api.OK:
		return errno
	case n.links == api.MaxLinks-1:
		return api.ErrTreeLinks
	}
	errno = t.enter(s, ino, false)
	if errno == api.OK {
		n.links++
	}
	return errno
}

// Unlink takes a name away (P9.7).
func (t *Tree) Unlink(cwd int, path string) api.Errno {
	s, errno := t.spotOf(cwd, path)
	switch {
	case errno != api.OK:
		return errno
	case s.named == 0:
		return api.ErrTreeNone
	}
	n, errno := t.get(s.named)
	switch {
	case errno != api.OK:
		return errno
	case n.typ == api.TypeDir && t.hasMore(n):
		return api.ErrTreeFull
	}
	t.put(s.dir, s.at, entry{}.bytes())
	n.links--
	if n.typ == api.TypeDir {
		s.dir.links--
		t.empty(n)
	}
	t.letGo(n)
	return api.OK
}
