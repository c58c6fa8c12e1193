package tree

import (
	"bytes"
	"iter"

	"hartix/api"
)

// padded is a name as it lies in a directory: cut, with zeros behind it, so that two that count as one are the same.
type padded [api.MaxName]byte

func pad(name string) padded {
	var p padded
	copy(p[:], name)
	return p
}

// entry is an entry of a directory; its number 0 is none.
type entry struct {
	ino  int
	name padded
}

func (e entry) has(name padded) bool { return e.ino != 0 && e.name == name }

// read takes just the bytes of one entry.
func read(b []byte) entry {
	e := entry{ino: int(b[0]) | int(b[1])<<8}
	copy(e.name[:], b[2:])
	return e
}

func (e entry) bytes() []byte {
	b := make([]byte, api.DirentSize)
	b[0], b[1] = byte(e.ino), byte(e.ino>>8)
	copy(b[2:], e.name[:])
	return b
}

func (e entry) plain() api.Dirent {
	name, _, _ := bytes.Cut(e.name[:], []byte{0})
	return api.Dirent{Ino: e.ino, Name: string(name)}
}

// Pack lays an entry down (P9.1).
func Pack(e api.Dirent) []byte { return entry{e.Ino, pad(e.Name)}.bytes() }

// Unpack reads an entry (P9.1).
func Unpack(b []byte) (api.Dirent, bool) {
	if len(b) != api.DirentSize {
		return api.Dirent{}, false
	}
	return read(b).plain(), true
}

// entries gives all entries of a directory, the empty ones too, each with its offset.
func (t *Tree) entries(dir *inode) iter.Seq2[int, entry] {
	return func(yield func(int, entry) bool) {
		at := 0
		for pa, size := range dir.pieces(0, dir.size) {
			block, _ := t.memory.Read(pa, size)
			for ; len(block) > 0; block = block[api.DirentSize:] {
				if !yield(at, read(block[:api.DirentSize])) {
					return
				}
				at += api.DirentSize
			}
		}
	}
}

// putDots lays down the first two entries of a directory without any.
func (t *Tree) putDots(ino, parent int) {
	dots := append(entry{ino, pad(".")}.bytes(), entry{parent, pad("..")}.bytes()...)
	t.put(&t.inodes[ino], 0, dots)
}

// hasMore tells whether a directory has an entry behind its first two.
func (t *Tree) hasMore(dir *inode) bool {
	for at, e := range t.entries(dir) {
		if at >= 2*api.DirentSize && e.ino != 0 {
			return true
		}
	}
	return false
}
