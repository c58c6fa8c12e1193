package space_test

// A memory with the spaces in it, each beside what the chapter says that it must be: every call is made on both, and behind each one everything is held against each other (P8.14 to P8.17).

import (
	"bytes"
	"maps"
	"reflect"
	"slices"
	"testing"

	"hartix/api"
	"hartix/ram"
	"hartix/space"
	"hartix/sv39"
)

// pair is a space and what it must be.
type pair struct {
	s *space.Space
	m *plain
}

type world struct {
	t      *testing.T
	r      *ram.Ram
	others map[uint64][]byte // the held frames that are no space's, and their bytes
	pairs  []*pair
	texts  int // how many that are not empty were read
}

func newWorld(t *testing.T, frames int) *world {
	t.Helper()
	r, err := ram.New(frames)
	if err != nil {
		t.Fatal(err)
	}
	w := &world{t: t, r: r, others: map[uint64][]byte{}}
	w.others[first], _ = r.Raw(first)
	return w
}

// frame takes a frame that becomes no space's.
func (w *world) frame() uint64 {
	w.t.Helper()
	pa, ok := w.r.Alloc()
	if !ok {
		w.t.Fatal("no frame is free")
	}
	w.others[pa] = bytes.Repeat([]byte{byte(pa >> 12), 0xC3}, page/2)
	w.r.Write(pa, w.others[pa])
	return pa
}

func (w *world) giveBack(pa uint64) {
	w.t.Helper()
	if errno := w.r.Free(pa); errno != api.OK {
		w.t.Fatalf("Free(%x) = %d", pa, errno)
	}
	delete(w.others, pa)
}

// leave takes or gives back frames until so many are free.
func (w *world) leave(free int) {
	w.t.Helper()
	for w.r.Count() > free {
		w.frame()
	}
	for _, pa := range slices.Sorted(maps.Keys(w.others)) {
		if w.r.Count() < free && pa != first && !w.isNamed(pa) {
			w.giveBack(pa)
		}
	}
	if w.r.Count() != free {
		w.t.Fatalf("%d frames are free, not %d", w.r.Count(), free)
	}
}

// isNamed tells whether a frame is some space's trapframe or trampoline.
func (w *world) isNamed(pa uint64) bool {
	return slices.ContainsFunc(w.pairs, func(p *pair) bool { return p.m.trapframe == pa || p.m.tramp == pa })
}

// asked holds the outcome of a call against the one that is due: a refusal has changed nothing at all.
func (w *world) asked(what string, got, want api.Errno, before api.RamImage) {
	w.t.Helper()
	if got != want {
		w.t.Fatalf("%s = %d, want %d", what, got, want)
	}
	if want != api.OK && !reflect.DeepEqual(w.r.Image(), before) {
		w.t.Fatalf("%s = %d has changed the memory", what, got)
	}
	w.check(what)
}

func (w *world) make(trapframe, tramp uint64) (*pair, api.Errno) {
	w.t.Helper()
	before := w.r.Image()
	m, want := wantNew(w.r, trapframe, tramp)
	s, got := space.New(w.r, trapframe, tramp)
	return w.made("New", s, m, got, want, before)
}

func (w *world) copy(p *pair, trapframe uint64) (*pair, api.Errno) {
	w.t.Helper()
	before := w.r.Image()
	m, want := p.m.wantCopy(w.r, trapframe)
	s, got := p.s.Copy(trapframe)
	return w.made("Copy", s, m, got, want, before)
}

func (w *world) made(what string, s *space.Space, m *plain, got, want api.Errno, before api.RamImage) (*pair, api.Errno) {
	w.t.Helper()
	var p *pair
	if want == api.OK {
		p = &pair{s, m}
		w.pairs = append(w.pairs, p)
	} else if s != nil {
		w.t.Fatalf("%s gave a space with the refusal %d", what, got)
	}
	w.asked(what, got, want, before)
	return p, want
}

// begin makes a space with a trapframe of its own.
func (w *world) begin() *pair {
	w.t.Helper()
	p, errno := w.make(w.frame(), first)
	if errno != api.OK {
		w.t.Fatalf("New = %d", errno)
	}
	return p
}

func (w *world) grow(p *pair, to, perm uint64) api.Errno {
	w.t.Helper()
	before := w.r.Image()
	want := p.m.wantGrow(w.r.Count(), to, perm)
	w.asked("Grow", p.s.Grow(to, perm), want, before)
	return want
}

func (w *world) shrink(p *pair, to uint64) api.Errno {
	w.t.Helper()
	before := w.r.Image()
	want := p.m.wantShrink(to)
	w.asked("Shrink", p.s.Shrink(to), want, before)
	return want
}

func (w *world) guard(p *pair, page int) api.Errno {
	w.t.Helper()
	before := w.r.Image()
	want := p.m.wantGuard(page)
	w.asked("Guard", p.s.Guard(page), want, before)
	return want
}

func (w *world) free(p *pair) {
	w.t.Helper()
	w.pairs = slices.DeleteFunc(w.pairs, func(q *pair) bool { return q == p })
	w.asked("Free", p.s.Free(), api.OK, api.RamImage{})
	checkNone(w.t, "behind Free", p.s)
	w.check("a freed space's calls")
}

// tried holds the outcome of a writing against the one that is due.
func (w *world) tried(what string, got, want bool, before api.RamImage) bool {
	w.t.Helper()
	if got != want {
		w.t.Fatalf("%s = %v, want %v", what, got, want)
	}
	if !want && !reflect.DeepEqual(w.r.Image(), before) {
		w.t.Fatalf("%s = false has changed the memory", what)
	}
	w.check(what)
	return want
}

func (w *world) out(p *pair, va uint64, b []byte) bool {
	w.t.Helper()
	before := w.r.Image()
	want := p.m.wantOut(va, b)
	return w.tried("Out", p.s.Out(va, b), want, before)
}

func (w *world) poke(p *pair, va uint64, b []byte) bool {
	w.t.Helper()
	before := w.r.Image()
	want := p.m.wantPoke(va, b)
	return w.tried("Poke", p.s.Poke(va, b), want, before)
}

// canOut, in and str only look: the memory behind them is not held against the one ahead of them each time.
func (w *world) canOut(p *pair, va uint64, n int) bool {
	w.t.Helper()
	want := p.m.wantCanOut(va, n)
	if got := p.s.CanOut(va, n); got != want {
		w.t.Fatalf("CanOut(%x, %d) = %v, want %v", va, n, got, want)
	}
	return want
}

func (w *world) in(p *pair, va uint64, n int) ([]byte, bool) {
	w.t.Helper()
	want, wantOk := p.m.wantIn(va, n)
	got, ok := p.s.In(va, n)
	if !bytes.Equal(got, want) || ok != wantOk || (got == nil) != (want == nil) {
		w.t.Fatalf("In(%x, %d) = % x, %v, want % x, %v", va, n, got, ok, want, wantOk)
	}
	return want, wantOk
}

func (w *world) str(p *pair, va uint64, most int) (string, bool) {
	w.t.Helper()
	want, wantOk := p.m.wantStr(va, most)
	if got, ok := p.s.Str(va, most); got != want || ok != wantOk {
		w.t.Fatalf("Str(%x, %d) = %q, %v, want %q, %v", va, most, got, ok, want, wantOk)
	}
	return want, wantOk
}

// check holds everything that can be seen against what must be there.
func (w *world) check(what string) {
	w.t.Helper()
	seen := map[uint64]bool{}
	for pa, data := range w.others {
		seen[pa] = true
		if got, ok := w.r.Read(pa, page); !ok || !bytes.Equal(got, data) {
			w.t.Fatalf("%s: the frame %x that is no space's was turned", what, pa)
		}
	}
	held := len(w.others)
	for _, p := range w.pairs {
		w.checkPair(what, p, seen)
		held += p.m.holds()
	}
	if got := w.r.Frames() - w.r.Count(); got != held || len(seen) != held {
		w.t.Fatalf("%s: %d frames are held, %d are somebody's, want %d", what, got, len(seen), held)
	}
}

func (w *world) checkPair(what string, p *pair, seen map[uint64]bool) {
	w.t.Helper()
	s, m := p.s, p.m
	if s.Size() != m.size || s.Pages() != len(m.pages) {
		w.t.Fatalf("%s: size %d, %d pages, want %d, %d", what, s.Size(), s.Pages(), m.size, len(m.pages))
	}
	nodes, pages := s.Look()
	if len(nodes) != nodesOf(len(m.pages)) || len(pages) != len(m.pages) || !slices.IsSorted(nodes) {
		w.t.Fatalf("%s: nodes %x, %d pages, want %d nodes, %d pages", what, nodes, len(pages), nodesOf(len(m.pages)), len(m.pages))
	}
	if table := slices.Sorted(slices.Values(sv39.Nodes(w.r, s.Root()))); !slices.Equal(nodes, table) {
		w.t.Fatalf("%s: nodes %x, the table under %x has %x", what, nodes, s.Root(), table)
	}
	for _, pa := range nodes {
		w.mark(what, seen, pa)
	}
	for k, look := range pages {
		w.mark(what, seen, look.Frame)
		want := m.pages[k]
		if look.Page != uint64(k) || look.Perm != want.perm {
			w.t.Fatalf("%s: page %d is told as %+v, want the right %b", what, k, look, want.perm)
		}
		w.checkLeaf(what, s, uint64(k)*page, look.Frame, want.perm|accessed|dirty)
		if data, ok := w.r.Read(look.Frame, page); !ok || !bytes.Equal(data, want.data) {
			w.t.Fatalf("%s: the bytes of page %d are other ones", what, k)
		}
	}
	w.checkLeaf(what, s, 1<<38-page, m.tramp, mayRead|mayFetch|accessed)
	w.checkLeaf(what, s, 1<<38-2*page, m.trapframe, rw|accessed|dirty)
	w.checkNoMore(what, p)
}

// mark tells that a frame has more than one owner, or is not held.
func (w *world) mark(what string, seen map[uint64]bool, pa uint64) {
	w.t.Helper()
	if seen[pa] || !isHeldFrame(w.r, pa) {
		w.t.Fatalf("%s: the frame %x is another one's too, or not held", what, pa)
	}
	seen[pa] = true
}

func (w *world) checkLeaf(what string, s *space.Space, va, frame, bits uint64) {
	w.t.Helper()
	pte, level, ok := sv39.Entry(w.r, s.Root(), va)
	if want := frame/page*1024 + bits + valid; pte != want || level != 0 || !ok {
		w.t.Fatalf("%s: at %x stands %x, %d, %v, want %x", what, va, pte, level, ok, want)
	}
}

// checkNoMore tells that the table has the pages, the trapframe and the trampoline, and nothing else.
func (w *world) checkNoMore(what string, p *pair) {
	w.t.Helper()
	n := 0
	for range sv39.Leaves(w.r, p.s.Root()) {
		n++
	}
	if n != len(p.m.pages)+2 {
		w.t.Fatalf("%s: %d pages in the table, want %d and two", what, n, len(p.m.pages))
	}
}

// checkNone asks everything of a space that is none.
func checkNone(t *testing.T, what string, s *space.Space) {
	t.Helper()
	if s.Root() != 0 || s.Size() != 0 || s.Pages() != 0 {
		t.Errorf("%s: %x, %d, %d", what, s.Root(), s.Size(), s.Pages())
	}
	c, copied := s.Copy(first)
	for k, errno := range []api.Errno{s.Grow(0, mayRead), s.Grow(1<<40, 0), s.Shrink(0), s.Shrink(1), s.Guard(0), s.Guard(-1), copied, s.Free()} {
		if errno != api.ErrZero {
			t.Errorf("%s: the call %d answers %d", what, k, errno)
		}
	}
	if c != nil {
		t.Errorf("%s: a copy", what)
	}
	for _, n := range []int{-1, 0, 1} {
		b, in := s.In(0, n)
		text, str := s.Str(0, n)
		if b != nil || in || text != "" || str || s.CanOut(0, n) {
			t.Errorf("%s: of %d bytes: % x, %v, %q, %v, %v", what, n, b, in, text, str, s.CanOut(0, n))
		}
	}
	for _, b := range [][]byte{nil, {}, {7}} {
		if s.Out(0, b) || s.Poke(0, b) {
			t.Errorf("%s: % x is written", what, b)
		}
	}
	if nodes, pages := s.Look(); nodes != nil || pages != nil {
		t.Errorf("%s: Look tells %x, %v", what, nodes, pages)
	}
}
