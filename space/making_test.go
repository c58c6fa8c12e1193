package space_test

// P8.1 to P8.3, P8.8.

import (
	"math"
	"reflect"
	"testing"

	"hartix/api"
	"hartix/ram"
	"hartix/space"
)

func TestNodes(t *testing.T) {
	for p := range 4097 {
		want := 3
		if p > 0 {
			want = 4 + (p+511)/512
		}
		if got := space.Nodes(p); got != want {
			t.Fatalf("Nodes(%d) = %d, want %d", p, got, want)
		}
	}
	for _, p := range []int{0, 1, 511, 512, 513, 1024, 1025, 4095, 4096} {
		if got, want := space.Nodes(p), nodesOf(p); got != want {
			t.Errorf("Nodes(%d) = %d, want %d", p, got, want)
		}
	}
	for _, p := range []int{-1, -2, -512, -4096, 4097, 4098, 8192, 1 << 32, 1<<32 + 1, math.MinInt, math.MaxInt} {
		if got := space.Nodes(p); got != 0 {
			t.Errorf("Nodes(%d) = %d", p, got)
		}
	}
}

func TestNew(t *testing.T) {
	w := newWorld(t, 16)
	before := w.r.Count()
	f := w.frame()
	p, errno := w.make(f, first)
	code(t, "New", errno, api.OK)
	countIs(t, "behind New", w.r, before-1-3)
	if p.s.Size() != 0 || p.s.Pages() != 0 {
		t.Errorf("size %d, %d pages", p.s.Size(), p.s.Pages())
	}
	nodes, pages := p.s.Look()
	if len(nodes) != 3 || pages != nil {
		t.Errorf("Look = %x, %v", nodes, pages)
	}
}

// The first frame is a held one like others: it may be the trapframe too, or neither.
func TestNewOfAnyTwoFrames(t *testing.T) {
	w := newWorld(t, 32)
	f, g := w.frame(), w.frame()
	for _, c := range [][2]uint64{{f, first}, {first, f}, {f, g}, {g, f}} {
		p, errno := w.make(c[0], c[1])
		code(t, "New", errno, api.OK)
		w.grow(p, 2*page, rw)
	}
	if len(w.pairs) != 4 {
		t.Errorf("%d spaces", len(w.pairs))
	}
}

func TestNewRefusesFrames(t *testing.T) {
	w := newWorld(t, 16)
	f, g := w.frame(), w.frame()
	w.giveBack(g)
	wrong := []uint64{0, 1, 8, page, f + 1, f + 8, f + page/2, f + page - 1, f - 1, g, first + 8, first - page, first - 1,
		first + 16*page, first + 1<<32, f + 1<<40, f + 1<<63, 1<<38 - page, 1<<64 - page, math.MaxUint64}
	for _, pa := range wrong {
		_, errno := w.make(pa, first)
		code(t, "no trapframe", errno, api.ErrSpaceFrame)
		_, errno = w.make(f, pa)
		code(t, "no trampoline", errno, api.ErrSpaceFrame)
		_, errno = w.make(pa, pa)
		code(t, "neither", errno, api.ErrSpaceFrame)
	}
	_, errno := w.make(f, f)
	code(t, "one for both", errno, api.ErrSpaceFrame)
	_, errno = w.make(first, first)
	code(t, "the first for both", errno, api.ErrSpaceFrame)
}

func TestNewNeedsThreeFrames(t *testing.T) {
	for free := range 5 {
		w := newWorld(t, 16)
		f := w.frame()
		w.leave(free)
		want := api.OK
		if free < 3 {
			want = api.ErrSpaceRoom
		}
		_, errno := w.make(f, first)
		code(t, "New", errno, want)
		_, errno = w.make(f, f)
		code(t, "the frames come first", errno, api.ErrSpaceFrame)
	}
}

func TestNewOfNoMemory(t *testing.T) {
	for _, r := range []*ram.Ram{nil, {}} {
		for _, c := range [][2]uint64{{first + page, first}, {0, 0}} {
			s, errno := space.New(r, c[0], c[1])
			if s != nil || errno != api.ErrZero {
				t.Errorf("New = %v, %d", s, errno)
			}
		}
	}
	r, err := ram.New(1)
	if err != nil {
		t.Fatal(err)
	}
	s, errno := space.New(r, first, first)
	if s != nil || errno != api.ErrSpaceFrame {
		t.Errorf("New = %v, %d", s, errno)
	}
}

// A memory of FromImage is as good as one of New.
func TestNewInAMemoryOfAnImage(t *testing.T) {
	one, err := ram.New(16)
	if err != nil {
		t.Fatal(err)
	}
	f, _ := one.Alloc()
	r, err := ram.FromImage(one.Image())
	if err != nil {
		t.Fatal(err)
	}
	s, errno := space.New(r, f, first)
	code(t, "New", errno, api.OK)
	code(t, "Grow", s.Grow(page, rw), api.OK)
	countIs(t, "the one", r, 14-6)
	countIs(t, "the other", one, 14)
}

func TestPagesRoundUp(t *testing.T) {
	w := newWorld(t, 32)
	p := w.begin()
	for _, c := range []struct {
		size  uint64
		pages int
	}{{1, 1}, {2, 1}, {4095, 1}, {4096, 1}, {4097, 2}, {8191, 2}, {8192, 2}, {8193, 3}, {5*page - 1, 5}, {5 * page, 5}} {
		code(t, "Grow", w.grow(p, c.size, rw), api.OK)
		if p.s.Size() != c.size || p.s.Pages() != c.pages {
			t.Errorf("size %d, %d pages, want %d, %d", p.s.Size(), p.s.Pages(), c.size, c.pages)
		}
	}
}

// The root is the table's, the same for as long as the space lives, and a space's own.
func TestRoot(t *testing.T) {
	w := newWorld(t, 48)
	p, q := w.begin(), w.begin()
	root := p.s.Root()
	if root == 0 || root == q.s.Root() {
		t.Errorf("the roots %x, %x", root, q.s.Root())
	}
	w.grow(p, 3*page, rw)
	w.guard(p, 1)
	w.shrink(p, 0)
	w.grow(p, 1, mayRead)
	if p.s.Root() != root {
		t.Errorf("the root %x was %x", p.s.Root(), root)
	}
}

func TestFreeGivesAllBack(t *testing.T) {
	for _, pages := range []int{0, 1, 2, 9} {
		w := newWorld(t, 32)
		f := w.frame()
		before := w.r.Count()
		p, _ := w.make(f, first)
		w.grow(p, uint64(pages)*page, rw)
		if pages > 1 {
			w.guard(p, 1)
		}
		countIs(t, "grown", w.r, before-pages-nodesOf(pages))
		w.free(p)
		countIs(t, "freed", w.r, before)
		code(t, "Free again", p.s.Free(), api.ErrZero)
		countIs(t, "freed again", w.r, before)
		if !isHeldFrame(w.r, f) || !isHeldFrame(w.r, first) {
			t.Error("the trapframe or the trampoline is free")
		}
	}
}

// One that is freed leaves no trace, but which frames are next: another one can be made there.
func TestFreedAndMadeAgain(t *testing.T) {
	w := newWorld(t, 13)
	f := w.frame()
	for range 5 {
		p, errno := w.make(f, first)
		code(t, "New", errno, api.OK)
		code(t, "Grow", w.grow(p, 6*page, rw), api.OK)
		code(t, "Grow of one more", w.grow(p, 6*page+1, rw), api.ErrSpaceRoom)
		w.out(p, page-1, []byte("over the border"))
		w.free(p)
	}
}

func TestSpacesThatNoCallMade(t *testing.T) {
	checkNone(t, "nil", nil)
	checkNone(t, "a plain one", &space.Space{})
	checkNone(t, "a new one", new(space.Space))
}

// A refused call of a space that is none changes no memory that others have.
func TestFreedSpaceIsApart(t *testing.T) {
	w := newWorld(t, 32)
	p, q := w.begin(), w.begin()
	w.grow(q, 2*page, rw)
	w.grow(p, 2*page, rw)
	s := p.s
	w.free(p)
	before := w.r.Image()
	checkNone(t, "behind Free", s)
	if !reflect.DeepEqual(w.r.Image(), before) {
		t.Error("the memory was changed")
	}
	w.check("behind Free")
}
