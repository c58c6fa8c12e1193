package tree

import (
	"iter"

	"hartix/api"
)

// Read tells bytes of a file or directory (P9.8).
func (t *Tree) Read(ino, off, n int) []byte {
	from, errno := t.get(ino)
	if errno != api.OK || off < 0 || n < 0 || off > from.size {
		return nil
	}
	var all []byte
	for pa, size := range from.pieces(off, min(n, from.size-off)) {
		piece, _ := t.memory.Read(pa, size)
		all = append(all, piece...)
	}
	return all
}

// Write writes bytes of a file, as many as there is room for (P9.8).
func (t *Tree) Write(ino, off int, b []byte) int {
	to, errno := t.get(ino)
	switch {
	case errno == api.ErrZero:
		return 0
	case errno != api.OK || to.typ != api.TypeFile || off < 0 || off > to.size:
		return -1
	}
	most := min(api.MaxBlocks, blocksOf(to.size)+t.memory.Count()) * api.PageSize
	n := min(len(b), most-off)
	t.put(to, off, b[:n])
	return n
}

// Trunc empties a file (P9.8).
func (t *Tree) Trunc(ino int) api.Errno {
	n, errno := t.get(ino)
	switch {
	case errno != api.OK:
		return errno
	case n.typ != api.TypeFile:
		return api.ErrTreeDir
	}
	t.empty(n)
	return api.OK
}

func blocksOf(size int) int { return (size + api.PageSize - 1) / api.PageSize }

// pieces tells block by block where bytes from off on lie in RAM: an address, and how many of them lie there.
func (n *inode) pieces(off, length int) iter.Seq2[uint64, int] {
	return func(yield func(uint64, int) bool) {
		for at := off; at < off+length; {
			inBlock := at % api.PageSize
			size := min(off+length-at, api.PageSize-inBlock)
			if !yield(n.blocks[at/api.PageSize]+uint64(inBlock), size) {
				return
			}
			at += size
		}
	}
}

// put writes bytes that begin at the size or ahead of it. Whoever calls it has looked whether there are frames for the blocks that come.
func (t *Tree) put(n *inode, off int, b []byte) {
	end := max(n.size, off+len(b))
	for k := blocksOf(n.size); k < blocksOf(end); k++ {
		n.blocks[k], _ = t.memory.Alloc()
	}
	n.size = end
	for pa, size := range n.pieces(off, len(b)) {
		t.memory.Write(pa, b[:size])
		b = b[size:]
	}
}

// empty gives the blocks of an inode back.
func (t *Tree) empty(n *inode) {
	for _, block := range n.blocks[:blocksOf(n.size)] {
		t.memory.Free(block)
	}
	clear(n.blocks[:])
	n.size = 0
}
