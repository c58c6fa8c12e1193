package space_test

// P8.13, P8.14.

import (
	"slices"
	"testing"

	"hartix/api"
	"hartix/space"
	"hartix/sv39"
)

// Nodes and pages tell what is there: they are reckoned from the table.
func TestLookTellsWhatIsThere(t *testing.T) {
	w, p := begun(t, 32, 3*page)
	other := w.frame()
	old, errno := sv39.Unmap(w.r, p.s.Root(), page)
	code(t, "Unmap", errno, api.OK)
	code(t, "Map", sv39.Map(w.r, p.s.Root(), page, other, api.PteX|api.PteA), api.OK)
	_, pages := p.s.Look()
	if len(pages) != 3 || pages[1] != (api.PageLook{Page: 1, Frame: other, Perm: api.PteX}) {
		t.Errorf("%+v (there was %x)", pages, old)
	}
}

// Rising, whatever order the frames were taken in.
func TestLookRises(t *testing.T) {
	w := newWorld(t, 1100)
	var some []uint64
	for range 40 {
		some = append(some, w.frame())
	}
	s := scatter(5)
	for len(some) > 0 {
		k := s.below(len(some))
		w.giveBack(some[k])
		some = slices.Delete(some, k, k+1)
	}
	p := w.begin()
	w.grow(p, 1025*page, rw)
	nodes, pages := p.s.Look()
	if len(nodes) != 7 || !slices.IsSorted(nodes) || len(pages) != 1025 {
		t.Errorf("%x, %d pages", nodes, len(pages))
	}
	for k, look := range pages {
		if look.Page != uint64(k) || look.Perm != rw|api.PteU {
			t.Fatalf("page %d: %+v", k, look)
		}
	}
	frames := []uint64{}
	for _, look := range pages {
		frames = append(frames, look.Frame)
	}
	if slices.IsSorted(frames) {
		t.Error("the frames rise too: the test is too plain")
	}
}

func TestLookOfAllSizes(t *testing.T) {
	for _, n := range []int{0, 1, 2, 511, 512, 513, 1024, 1025} {
		w := newWorld(t, 1100)
		p := w.begin()
		w.grow(p, uint64(n)*page, rw)
		nodes, pages := p.s.Look()
		if len(nodes) != space.Nodes(n) || len(pages) != n || (n == 0) != (pages == nil) {
			t.Errorf("%d pages: %d nodes, %d pages", n, len(nodes), len(pages))
		}
		if !slices.Contains(nodes, p.s.Root()) {
			t.Errorf("%d pages: the root %x is not told", n, p.s.Root())
		}
	}
}

// Looking changes nothing, and tells the same again.
func TestLookAgain(t *testing.T) {
	w, p := hollow(t)
	nodes, pages := p.s.Look()
	again, too := p.s.Look()
	if !slices.Equal(nodes, again) || !slices.Equal(pages, too) {
		t.Errorf("%x, %+v; %x, %+v", nodes, pages, again, too)
	}
	w.check("Look")
}
