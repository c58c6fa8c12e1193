package tree

import "hartix/api"

// The number of the one device that all inodes lie on.
const device = 1

// Stat tells what fstat tells (P9.10).
func (t *Tree) Stat(ino int) api.Stat {
	n, errno := t.get(ino)
	if errno != api.OK {
		return api.Stat{}
	}
	return api.Stat{Dev: device, Ino: uint32(ino), Type: int16(n.typ), Nlink: int16(n.links), Size: uint64(n.size)}
}

// Look tells an inode whole (P9.10).
func (t *Tree) Look(ino int) api.InodeLook {
	n, errno := t.get(ino)
	if errno != api.OK {
		return api.InodeLook{}
	}
	look := api.InodeLook{Ino: ino, Type: n.typ, Major: n.major, Minor: n.minor, Links: n.links, Refs: n.refs, Size: n.size}
	look.Blocks = append(look.Blocks, n.blocks[:blocksOf(n.size)]...)
	return look
}

// List tells the entries of a directory that are not empty (P9.10).
func (t *Tree) List(ino int) []api.Dirent {
	dir, errno := t.directory(ino)
	if errno != api.OK {
		return nil
	}
	var all []api.Dirent
	for _, e := range t.entries(dir) {
		if e.ino != 0 {
			all = append(all, e.plain())
		}
	}
	return all
}

// Left tells how many inodes are free (P9.10).
func (t *Tree) Left() int {
	left := 0
	for ino := api.RootIno; ino < api.MaxInodes; ino++ {
		if _, errno := t.get(ino); errno == api.ErrTreeIno {
			left++
		}
	}
	return left
}
