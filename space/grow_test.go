package space_test

// P8.4 to P8.6, P8.18.

import (
	"bytes"
	"math"
	"reflect"
	"slices"
	"testing"

	"hartix/api"
)

// begun gives a world with one space of so many bytes that may be read and written.
func begun(t *testing.T, frames int, size uint64) (*world, *pair) {
	t.Helper()
	w := newWorld(t, frames)
	p := w.begin()
	code(t, "Grow", w.grow(p, size, rw), api.OK)
	return w, p
}

// fillPages writes into every byte of the space's pages, as the hart would, so that nothing is 0 by chance.
func (w *world) fillPages(p *pair, v byte) {
	w.t.Helper()
	_, pages := p.s.Look()
	for k, look := range pages {
		data := bytes.Repeat([]byte{v, v ^ 0x55}, page/2)
		if !w.r.Write(look.Frame, data) {
			w.t.Fatalf("the frame %x is not held", look.Frame)
		}
		copy(p.m.pages[k].data, data)
	}
	w.check("a write to the frames")
}

func TestGrowSizes(t *testing.T) {
	w, p := begun(t, 32, 5000)
	for _, to := range []uint64{0, 1, 4096, 4999, userTop + 1, userTop + page, 1 << 38, 1<<63 - 1, 1 << 63, math.MaxUint64 - 4095, math.MaxUint64} {
		code(t, "Grow", w.grow(p, to, rw), api.ErrSpaceSize)
		code(t, "the size comes first", w.grow(p, to, mayWrite), api.ErrSpaceSize)
	}
	for _, to := range []uint64{userTop, userTop - 1, 1 << 37, 1 << 32, 4097 * page, 4096*page + 1} {
		code(t, "Grow", w.grow(p, to, rw), api.ErrSpaceRoom)
		code(t, "the permissions come first", w.grow(p, to, 0), api.ErrSpacePerm)
	}
	for _, to := range []uint64{5000, 5001, 8192, 8193} {
		code(t, "Grow", w.grow(p, to, rw), api.OK)
	}
}

func TestGrowPermissions(t *testing.T) {
	w, p := begun(t, 64, 100)
	right := 0
	for perm := range uint64(1024) {
		to := p.m.size + page*uint64(perm%2) // where no page comes, too
		if w.grow(p, to, perm) == api.OK {
			right++
		}
		if perm%16 == 15 {
			w.shrink(p, 100)
		}
	}
	if right != 5 {
		t.Errorf("%d permissions are right", right)
	}
	for bit := range 64 {
		if errno := w.grow(p, 200, mayRead|1<<bit); (errno == api.OK) != (bit >= 1 && bit <= 3) {
			t.Errorf("with the bit %d: %d", bit, errno)
		}
	}
}

// Each right can be had just where it is given.
func TestGrownPagesAreReachedAsTheirPermissionsLet(t *testing.T) {
	w := newWorld(t, 32)
	p := w.begin()
	for k, perm := range []uint64{mayRead, mayFetch, mayRead | mayFetch, rw, rw | mayFetch} {
		code(t, "Grow", w.grow(p, uint64(k+1)*page, perm), api.OK)
		_, ok := w.in(p, uint64(k)*page, page)
		truth(t, "In", ok, perm&mayRead != 0)
		truth(t, "CanOut", w.canOut(p, uint64(k)*page, page), perm&mayWrite != 0)
		truth(t, "Out", w.out(p, uint64(k)*page+9, []byte("x")), perm&mayWrite != 0)
	}
}

// Every byte from the old size up to the end of the last page is 0, whatever the old last page lets; nothing below the old size turns.
func TestGrowClearsTheTail(t *testing.T) {
	for _, perm := range []uint64{mayRead, mayFetch, rw} {
		for _, size := range []uint64{1, 50, 4095, 4096, 4097, 8191, 8192} {
			for _, more := range []uint64{0, 1, 2, 4095, 4096, 4097, 9000} {
				w := newWorld(t, 32)
				p := w.begin()
				w.grow(p, size, perm)
				w.fillPages(p, 0x99)
				if size%2 == 0 {
					w.guard(p, pagesFor(size)-1)
				}
				code(t, "Grow", w.grow(p, size+more, mayRead), api.OK)
				_, pages := p.s.Look()
				last, _ := w.r.Read(pages[(size-1)/page].Frame, page)
				kept := (size-1)%page + 1
				if !bytes.Equal(last[:kept], bytes.Repeat([]byte{0x99, 0x99 ^ 0x55}, page/2)[:kept]) {
					t.Fatalf("%d and %d: bytes below the old size were turned", size, more)
				}
				if more > 0 && !bytes.Equal(last[kept:], make([]byte, page-kept)) {
					t.Fatalf("%d and %d: bytes behind the old size are left", size, more)
				}
			}
		}
	}
}

// Growing to the size that there is turns nothing, not even behind the size.
func TestGrowByNothing(t *testing.T) {
	w, p := begun(t, 32, 5000)
	w.fillPages(p, 0x77)
	before := w.r.Image()
	code(t, "Grow", w.grow(p, 5000, mayFetch), api.OK)
	if !reflect.DeepEqual(w.r.Image(), before) {
		t.Error("the memory was changed")
	}
	w2 := newWorld(t, 16)
	q := w2.begin()
	code(t, "Grow from nothing to nothing", w2.grow(q, 0, mayRead), api.OK)
	code(t, "its permissions are asked too", w2.grow(q, 0, 0), api.ErrSpacePerm)
}

// What was there ahead of a Shrink does not come back, neither in the last page nor in pages that went.
func TestShrunkAndGrown(t *testing.T) {
	for _, to := range []uint64{0, 1, 50, 4095, 4096, 4097, 3 * page} {
		w, p := begun(t, 32, 3*page+10)
		w.fillPages(p, 0xEE)
		code(t, "Shrink", w.shrink(p, to), api.OK)
		code(t, "Grow", w.grow(p, 3*page+10, rw), api.OK)
		b, ok := w.in(p, to, int(4*page-to))
		if !ok || !bytes.Equal(b, make([]byte, 4*page-to)) {
			t.Errorf("Shrink to %d: something has come back", to)
		}
	}
}

// Growing from within a page up to its end takes no frame, and needs none.
func TestGrowWithinAPage(t *testing.T) {
	w, p := begun(t, 16, 1)
	w.leave(0)
	for _, to := range []uint64{2, 300, 4095, 4096} {
		code(t, "Grow", w.grow(p, to, mayFetch), api.OK)
	}
	code(t, "Grow", w.grow(p, 4097, mayFetch), api.ErrSpaceRoom)
	code(t, "Shrink", w.shrink(p, 10), api.OK)
	w.fillPages(p, 1)
	code(t, "Grow", w.grow(p, 11, rw), api.OK)
}

// The demand, to the frame: pages and the nodes that come with them.
func TestGrowNeedsItsDemand(t *testing.T) {
	for _, c := range []struct{ from, to, demand int }{
		{0, 1, 3}, {0, 2, 4}, {1, 2, 1}, {0, 512, 514}, {0, 513, 516}, {1, 512, 511}, {511, 512, 1}, {512, 513, 2},
		{511, 513, 3}, {512, 1024, 513}, {513, 1024, 511}, {1024, 1025, 2}, {500, 1030, 532}, {0, 1025, 1029},
	} {
		w := newWorld(t, 1100)
		p := w.begin()
		code(t, "Grow", w.grow(p, uint64(c.from)*page, rw), api.OK)
		w.leave(c.demand - 1)
		code(t, "Grow with one too few", w.grow(p, uint64(c.to)*page, rw), api.ErrSpaceRoom)
		code(t, "Grow with one too few", w.grow(p, uint64(c.to)*page-page+1, rw), api.ErrSpaceRoom)
		w.leave(c.demand)
		code(t, "Grow with just enough", w.grow(p, uint64(c.to)*page, rw), api.OK)
		countIs(t, "behind it", w.r, 0)
	}
}

// The greatest memory: all frames but the trampoline and the trapframe are pages and nodes of one space.
func TestGrowToTheEndOfTheMemory(t *testing.T) {
	w := newWorld(t, api.MaxFrames)
	p := w.begin()
	most := 0
	for most+1+nodesOf(most+1) <= api.MaxFrames-2 {
		most++
	}
	code(t, "Grow to one more", w.grow(p, uint64(most)*page+1, rw), api.ErrSpaceRoom)
	code(t, "Grow to MaxFrames", w.grow(p, api.MaxFrames*page, rw), api.ErrSpaceRoom)
	code(t, "Grow beyond MaxFrames", w.grow(p, api.MaxFrames*page+1, rw), api.ErrSpaceRoom)
	code(t, "Grow to UserTop", w.grow(p, userTop, rw), api.ErrSpaceRoom)
	code(t, "Grow", w.grow(p, uint64(most)*page, rw), api.OK)
	countIs(t, "behind it", w.r, 4094-most-nodesOf(most))
	b := bytes.Repeat([]byte("all of it"), most*page/9)
	truth(t, "Out", p.s.Out(0, b), true)
	got, ok := p.s.In(0, len(b))
	if !ok || !bytes.Equal(got, b) {
		t.Error("what was written is not read back")
	}
	_, ok = p.s.In(0, most*page+1)
	truth(t, "In of one more", ok, false)
	code(t, "Free", p.s.Free(), api.OK)
	countIs(t, "freed", w.r, 4094)
}

func TestShrinkSizes(t *testing.T) {
	w, p := begun(t, 32, 3*page+10)
	for _, to := range []uint64{3*page + 11, 4 * page, userTop, 1 << 63, math.MaxUint64} {
		code(t, "Shrink", w.shrink(p, to), api.ErrSpaceSize)
	}
	before := w.r.Count()
	for _, c := range []struct {
		to   uint64
		back int
	}{{3*page + 10, 0}, {3*page + 9, 0}, {3*page + 1, 0}, {3 * page, 1}, {3*page - 1, 1}, {page + 1, 2}, {page, 3}, {1, 3}, {0, 6}, {0, 6}} {
		code(t, "Shrink", w.shrink(p, c.to), api.OK)
		countIs(t, "behind Shrink", w.r, before+c.back)
	}
}

// Nodes that have become empty are given back at once, others stay.
func TestShrinkGivesNodesBack(t *testing.T) {
	w, p := begun(t, 1100, 1025*page)
	for _, pages := range []int{1025, 1024, 1023, 513, 512, 511, 1, 0} {
		code(t, "Shrink", w.shrink(p, uint64(pages)*page), api.OK)
		countIs(t, "behind Shrink", w.r, 1100-2-pages-nodesOf(pages))
	}
	code(t, "Grow", w.grow(p, 1024*page, rw), api.OK)
	code(t, "Shrink all at once", w.shrink(p, 1), api.OK)
	countIs(t, "behind it", w.r, 1100-2-1-5)
}

// The bytes of the last page behind the size stay as they are.
func TestShrinkKeepsTheLastPage(t *testing.T) {
	w, p := begun(t, 32, 2*page)
	w.fillPages(p, 0x31)
	for _, to := range []uint64{2*page - 1, page + 5, page + 1} {
		code(t, "Shrink", w.shrink(p, to), api.OK)
		if b, ok := w.in(p, page, page); !ok || !bytes.Equal(b, bytes.Repeat([]byte{0x31, 0x31 ^ 0x55}, page/2)) {
			t.Errorf("Shrink to %d: % x, %v", to, b, ok)
		}
	}
}

func TestGuard(t *testing.T) {
	w := newWorld(t, 32)
	p := w.begin()
	for k, perm := range []uint64{mayRead, mayFetch, mayRead | mayFetch, rw, rw | mayFetch} {
		w.grow(p, uint64(k+1)*page, perm)
	}
	w.fillPages(p, 0x44)
	_, were := p.s.Look()
	for k := range 5 {
		for range 3 {
			before := w.r.Count()
			code(t, "Guard", w.guard(p, k), api.OK)
			countIs(t, "guarded", w.r, before)
		}
		_, ok := w.in(p, uint64(k)*page, 1)
		truth(t, "In", ok, false)
		truth(t, "CanOut", w.canOut(p, uint64(k)*page, 1), false)
		truth(t, "Poke", w.poke(p, uint64(k)*page+7, []byte{1, 2}), true)
	}
	_, are := p.s.Look()
	for k := range are {
		if are[k].Frame != were[k].Frame || are[k].Perm != were[k].Perm-isUsers {
			t.Errorf("page %d was %+v, is %+v", k, were[k], are[k])
		}
	}
}

func TestGuardPages(t *testing.T) {
	w, p := begun(t, 32, 2*page+1)
	for _, k := range []int{-1, -2, math.MinInt, 3, 4, 512, 4096, 1 << 26, 1<<26 - 2, 1<<26 - 1, 1 << 52, math.MaxInt} {
		code(t, "Guard", w.guard(p, k), api.ErrSpacePage)
	}
	code(t, "Guard of the last", w.guard(p, 2), api.OK)
	w.shrink(p, 2*page)
	code(t, "Guard of one that went", w.guard(p, 2), api.ErrSpacePage)
	w.shrink(p, 0)
	code(t, "Guard of none", w.guard(p, 0), api.ErrSpacePage)
}

// The one page of a space, and the one page behind a node's border: their nodes are still there.
func TestGuardOfTheOnlyPageOfItsNodes(t *testing.T) {
	w, p := begun(t, 16, 1)
	w.leave(0)
	code(t, "Guard", w.guard(p, 0), api.OK)
	w, p = begun(t, 530, 513*page)
	w.leave(0)
	code(t, "Guard", w.guard(p, 512), api.OK)
	code(t, "Guard", w.guard(p, 511), api.OK)
}

// A guarded page that went comes back as any other.
func TestGuardedPageGoesAndComes(t *testing.T) {
	w, p := begun(t, 32, 2*page)
	w.guard(p, 1)
	w.shrink(p, page)
	w.grow(p, 2*page, mayRead)
	if _, ok := w.in(p, page, page); !ok {
		t.Error("it is guarded still")
	}
}

// P8.18.
func TestThereAndBack(t *testing.T) {
	for _, from := range []uint64{0, 1, 4095, 4096, 4097, 3*page + 7} {
		for _, by := range []uint64{0, 1, 4095, 4096, 5*page + 1} {
			w, p := begun(t, 32, from)
			w.fillPages(p, 0x61)
			before := w.r.Count()
			was, _ := w.in(p, 0, int(from))
			code(t, "Grow", w.grow(p, from+by, mayRead), api.OK)
			code(t, "Shrink", w.shrink(p, from), api.OK)
			countIs(t, "there and back", w.r, before)
			if now, _ := w.in(p, 0, int(from)); !slices.Equal(now, was) {
				t.Errorf("from %d by %d: the bytes below the size were turned", from, by)
			}
			f := w.frame()
			before = w.r.Count()
			q, _ := w.make(f, first)
			w.free(q)
			c, errno := w.copy(p, f)
			code(t, "Copy", errno, api.OK)
			w.free(c)
			countIs(t, "made and freed", w.r, before)
		}
	}
}

// The hart's walk finds what the space tells, in the memory that is handed over.
func TestSpaceLiesInTheMemory(t *testing.T) {
	w, p := begun(t, 32, 3*page)
	_, pages := p.s.Look()
	for k, look := range pages {
		w.r.Store(look.Frame+8, 4, uint64(k)+77)
		p.m.pages[k].data[8] = byte(k) + 77
	}
	w.check("a Store to the frames")
	for k := range pages {
		if b, ok := w.in(p, uint64(k)*page+8, 1); !ok || b[0] != byte(k)+77 {
			t.Errorf("page %d: % x, %v", k, b, ok)
		}
	}
}
