package space_test

// P8.7, P8.8, P8.16.

import (
	"bytes"
	"math"
	"testing"

	"hartix/api"
)

// mixed gives a world with a space whose pages are of all kinds, one guarded, the last one not filled.
func mixed(t *testing.T, frames int) (*world, *pair) {
	t.Helper()
	w := newWorld(t, frames)
	p := w.begin()
	for k, perm := range []uint64{mayRead, mayFetch, mayRead | mayFetch, rw, rw, rw | mayFetch} {
		w.grow(p, uint64(k+1)*page, perm)
	}
	w.grow(p, 6*page+123, rw)
	w.fillPages(p, 0x20)
	w.guard(p, 4)
	return w, p
}

func TestCopy(t *testing.T) {
	w, p := mixed(t, 64)
	g := w.frame()
	before := w.r.Count()
	c, errno := w.copy(p, g)
	code(t, "Copy", errno, api.OK)
	countIs(t, "behind Copy", w.r, before-7-nodesOf(7))
	if c.s.Size() != 6*page+123 || c.s.Root() == p.s.Root() {
		t.Errorf("size %d, root %x", c.s.Size(), c.s.Root())
	}
	_, mine := p.s.Look()
	_, others := c.s.Look()
	for k := range mine {
		a, _ := w.r.Read(mine[k].Frame, page)
		b, _ := w.r.Read(others[k].Frame, page)
		if mine[k].Perm != others[k].Perm || mine[k].Frame == others[k].Frame || !bytes.Equal(a, b) {
			t.Errorf("page %d: %+v, %+v", k, mine[k], others[k])
		}
	}
}

// Whatever is done to one of the two, the other is as it was (world holds both against what they must be behind each call).
func TestCopyIsApart(t *testing.T) {
	w, p := mixed(t, 64)
	c, _ := w.copy(p, w.frame())
	for _, one := range []*pair{p, c} {
		truth(t, "Out", w.out(one, 3*page, []byte("mine")), true)
		truth(t, "Poke", w.poke(one, page-2, []byte("mine")), true)
		w.guard(one, 0)
		w.grow(one, 9*page, mayFetch)
		w.shrink(one, 2*page)
		w.fillPages(one, 0x6F)
		w.grow(one, 3*page, rw)
	}
	w.free(p)
	truth(t, "Out", w.out(c, 2*page, []byte("still here")), true)
	d, errno := w.copy(c, w.frame())
	code(t, "a copy's copy", errno, api.OK)
	w.free(c)
	w.out(d, 2*page, []byte("here too"))
	w.free(d)
	countIs(t, "all are free", w.r, 64-1-3)
}

func TestCopyOfNothing(t *testing.T) {
	w := newWorld(t, 16)
	p := w.begin()
	c, errno := w.copy(p, w.frame())
	code(t, "Copy", errno, api.OK)
	w.grow(c, 1, rw)
	if p.s.Pages() != 0 {
		t.Error("the first one has a page")
	}
}

func TestCopyRefusesFrames(t *testing.T) {
	w, p := mixed(t, 64)
	g, h := w.frame(), w.frame()
	w.giveBack(h)
	for _, pa := range []uint64{0, 1, page, p.m.trapframe, p.m.tramp, g + 8, g - 1, g + page - 1, h, first - page, first + 64*page, g + 1<<32, 1 << 63, 1<<64 - page, math.MaxUint64} {
		_, errno := w.copy(p, pa)
		code(t, "Copy", errno, api.ErrSpaceFrame)
	}
	w.leave(0)
	_, errno := w.copy(p, p.m.trapframe)
	code(t, "the frames come first", errno, api.ErrSpaceFrame)
	_, errno = w.copy(p, g)
	code(t, "then the room", errno, api.ErrSpaceRoom)
}

// The trampoline is the same, whichever frame that is; the first frame may be a trapframe then.
func TestCopyOfAnotherTrampoline(t *testing.T) {
	w := newWorld(t, 48)
	f, g, h := w.frame(), w.frame(), w.frame()
	p, _ := w.make(f, g)
	w.grow(p, page+1, rw)
	_, errno := w.copy(p, g)
	code(t, "its trampoline", errno, api.ErrSpaceFrame)
	c, errno := w.copy(p, first)
	code(t, "the first frame", errno, api.OK)
	_, errno = w.copy(c, first)
	code(t, "the copy's trapframe", errno, api.ErrSpaceFrame)
	d, errno := w.copy(c, f)
	code(t, "the first one's trapframe", errno, api.OK)
	_, errno = w.copy(d, h)
	code(t, "another one", errno, api.OK)
	w.free(p)
	_, errno = w.copy(d, h)
	code(t, "behind the first one's end", errno, api.OK)
}

// A trampoline that is held no more can be no copy's, as it can be no new space's.
func TestCopyWithoutATrampoline(t *testing.T) {
	w := newWorld(t, 32)
	f, g, h := w.frame(), w.frame(), w.frame()
	p, _ := w.make(f, g)
	w.giveBack(g)
	_, errno := w.copy(p, h)
	code(t, "Copy", errno, api.ErrSpaceFrame)
}

func TestCopyNeedsItsDemand(t *testing.T) {
	for _, pages := range []int{0, 1, 2, 511, 512, 513} {
		w := newWorld(t, 1100)
		p := w.begin()
		w.grow(p, uint64(pages)*page, rw)
		g := w.frame()
		demand := pages + nodesOf(pages)
		w.leave(demand - 1)
		_, errno := w.copy(p, g)
		code(t, "Copy with one too few", errno, api.ErrSpaceRoom)
		w.leave(demand)
		_, errno = w.copy(p, g)
		code(t, "Copy with just enough", errno, api.OK)
		countIs(t, "behind it", w.r, 0)
	}
}

// A page that is not whole in the size is copied whole.
func TestCopyOfWholePages(t *testing.T) {
	w, p := begun(t, 32, page)
	w.fillPages(p, 0x13)
	w.shrink(p, 5)
	c, _ := w.copy(p, w.frame())
	if b, ok := w.in(c, 0, page); !ok || !bytes.Equal(b, bytes.Repeat([]byte{0x13, 0x13 ^ 0x55}, page/2)) {
		t.Errorf("% x, %v", b, ok)
	}
}
