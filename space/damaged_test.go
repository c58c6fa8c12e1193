package space_test

// Of a space into whose nodes somebody has written, or whose frames somebody has freed, nothing is promised but that its calls end (and so that they do not panic).

import (
	"math"
	"testing"

	"hartix/api"
	"hartix/space"
	"hartix/sv39"
)

// use makes every call on a space.
func use(s *space.Space, trapframe uint64) {
	for _, va := range []uint64{0, page - 1, 3 * page, 1 << 38, math.MaxUint64} {
		s.In(va, 2*page)
		s.In(va, math.MaxInt)
		s.CanOut(va, 2*page)
		s.CanOut(va, math.MaxInt)
		s.Out(va, make([]byte, 2*page))
		s.Poke(va, make([]byte, 2*page))
		s.Str(va, math.MaxInt)
	}
	s.Look()
	s.Root()
	s.Guard(1)
	s.Grow(s.Size()+page+1, rw)
	if c, errno := s.Copy(trapframe); errno == api.OK {
		c.Look()
		c.Free()
	}
	s.Shrink(s.Size() / 2)
	s.Grow(s.Size()+3*page, rw)
	s.Guard(0)
	s.Shrink(1)
	s.Look()
	s.Free()
}

// junk gives an entry that may be anything, pointers to and leaves of all frames among them.
func junk(s *scatter, frames int) uint64 {
	at := (first/page + uint64(s.below(frames))) * 1024
	switch s.below(6) {
	case 0:
		return s.next()
	case 1:
		return 0
	case 2:
		return at | valid
	case 3:
		return at&^(1<<28-1) | s.next()&0xFF | valid | mayRead
	}
	return at | s.next()&0xFF | valid
}

func TestDamagedSpacesEnd(t *testing.T) {
	s := scatter(8)
	for range 1500 {
		w := newWorld(t, 40)
		p, g := w.begin(), w.frame()
		w.grow(p, uint64(s.below(6*page)), rw)
		nodes, pages := p.s.Look()
		for range 1 + s.below(6) {
			node := pick(&s, nodes...)
			index := pick(&s, 0, 1, 2, 255, 509, 510, 511, s.below(512))
			w.r.Store(node+8*uint64(index), 8, junk(&s, 40))
		}
		for range s.below(3) {
			w.r.Free(pick(&s, nodes...))
		}
		if len(pages) > 0 && s.below(3) == 0 {
			w.r.Free(pages[s.below(len(pages))].Frame)
		}
		use(p.s, g)
		checkNone(t, "behind Free", p.s)
	}
}

// A copy that can't be finished is given back: what is short of the frames that were free is nothing.
func TestUnfinishedCopyIsGivenBack(t *testing.T) {
	for lost := range 5 {
		w, p := begun(t, 48, 5*page)
		w.guard(p, 2)
		g := w.frame()
		if _, errno := sv39.Unmap(w.r, p.s.Root(), uint64(lost)*page); errno != api.OK {
			t.Fatalf("Unmap = %d", errno)
		}
		before := w.r.Count()
		c, errno := p.s.Copy(g)
		if c != nil || errno == api.OK {
			t.Errorf("without page %d: %v, %d", lost, c, errno)
		}
		countIs(t, "behind it", w.r, before)
	}
}

// All frames of a space freed by another one, and taken again.
func TestFramesTakenFromASpace(t *testing.T) {
	w, p := begun(t, 32, 3*page)
	nodes, pages := p.s.Look()
	for _, node := range nodes {
		w.r.Free(node)
	}
	for _, look := range pages {
		w.r.Free(look.Frame)
	}
	g, _ := w.r.Alloc()
	for pa, ok := w.r.Alloc(); ok; pa, ok = w.r.Alloc() {
		w.r.Write(pa, make([]byte, page))
	}
	use(p.s, g)
}
