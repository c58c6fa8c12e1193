package tree_test

// Of a tree into whose frames somebody has written, or whose frames somebody has freed, nothing is promised but that its calls end (and so that they do not panic).

import (
	"math"
	"testing"

	"hartix/api"
	"hartix/tree"
)

// exercise makes every call on a tree, on many inodes and paths.
func exercise(x *tree.Tree) {
	inodes := []int{0, 1, 2, 3, 4, 5, 6, 7, 8, 199, 65535}
	paths := []string{"", "/", "a", "a/b/f", "a/b", "c", "x", "a/x", "..", "a/fourteen bytes", "/n1", "\x01", "a/n3"}
	for _, ino := range inodes {
		x.Stat(ino)
		x.Look(ino)
		x.List(ino)
		x.Read(ino, 0, math.MaxInt)
		x.Read(ino, page-1, page)
		x.Hold(ino)
		x.Write(ino, 0, make([]byte, 5000))
		for _, path := range paths {
			x.Find(ino, path)
			x.Link(4, ino, path)
			x.Make(ino, path+"new", api.TypeDir, 0, 0)
			x.Make(ino, path, api.TypeFile, 0, 0)
			x.Unlink(ino, path)
		}
		x.Trunc(ino)
		x.Drop(ino)
	}
	for _, ino := range inodes {
		x.Drop(ino)
		x.Drop(ino)
	}
	x.Left()
}

// damage writes into blocks of the tree, and frees some.
func (w *world) damage(s *scatter) {
	var blocks []uint64
	for ino := range 10 {
		blocks = append(blocks, w.x.Look(ino).Blocks...)
	}
	for range 1 + s.below(8) {
		pa := pick(s, blocks...) + uint64(s.below(8)*16)
		switch s.below(5) {
		case 0:
			w.r.Store(pa, 2, s.next())
		case 1:
			w.r.Store(pa, 2, uint64(s.below(10)))
		case 2:
			w.r.Store(pa+2, 1, uint64(pick(s, 'a', 'b', 'c', 'x', 0)))
		case 3:
			w.r.Store(pa+3, 8, s.next())
		case 4:
			w.r.Write(pa, packed(slot{s.below(10), pick(s, "a", "x", "b", "f", ".")}))
		}
	}
	if s.below(3) == 0 {
		w.r.Free(pick(s, blocks...))
	}
}

func TestDamagedTreesEnd(t *testing.T) {
	s := scatter(8)
	for range 600 {
		w := grove(t, pick(&s, 12, 40))
		for _, name := range manyNames(4) {
			w.x.Link(4, 2, name)
			w.x.Link(5, 1, name)
		}
		w.x.Write(4, 0, filled(page+1, 1))
		w.damage(&s)
		exercise(w.x)
		w.damage(&s)
		exercise(w.x)
	}
}

// All frames of a tree freed by somebody else, and taken again.
func TestFramesTakenFromATree(t *testing.T) {
	w := grove(t, 20)
	w.x.Write(4, 0, filled(page+1, 1))
	for ino := range 10 {
		for _, pa := range w.x.Look(ino).Blocks {
			w.r.Free(pa)
		}
	}
	exercise(w.x)
	for pa, ok := w.r.Alloc(); ok; pa, ok = w.r.Alloc() {
		w.r.Write(pa, filled(page, 0xFF))
	}
	exercise(w.x)
}
