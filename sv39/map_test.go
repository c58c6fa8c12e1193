package sv39_test

import (
	"maps"
	"slices"
	"testing"

	"hartix/api"
	"hartix/ram"
	"hartix/sv39"
)

// laid is a page as it was laid down.
type laid struct{ pa, perm uint64 }

// plain is a table as the map that P4.10 says it is.
type plain struct {
	root  uint64
	pages map[uint64]laid
}

func (p plain) nodes() int {
	great, middle := map[uint64]bool{}, map[uint64]bool{}
	for va := range p.pages {
		great[va/(1<<30)] = true
		middle[va/(1<<21)] = true
	}
	return 1 + len(great) + len(middle)
}

func (p plain) check(t *testing.T, r *ram.Ram, places []uint64) {
	t.Helper()
	var want []leafAt
	for _, va := range slices.Sorted(maps.Keys(p.pages)) {
		l := p.pages[va]
		want = append(want, leafAt{va, l.pa/page*1024 + l.perm + 1})
	}
	if got := leavesOf(r, p.root); !slices.Equal(got, want) {
		t.Fatalf("Leaves = %x, want %x", got, want)
	}
	nodes := sv39.Nodes(r, p.root)
	if len(nodes) != p.nodes() {
		t.Fatalf("%d nodes, want %d", len(nodes), p.nodes())
	}
	for _, va := range places {
		l, is := p.pages[va]
		pte, level, ok := sv39.Entry(r, p.root, va+77)
		if ok != is || level != 0 || ok && pte != l.pa/page*1024+l.perm+1 {
			t.Fatalf("Entry(%x) = %x, %d, %v", va, pte, level, ok)
		}
		for _, a := range []api.Access{api.Fetch, api.Load, api.Store} {
			wantPa, let := uint64(0), is && isLet(l.perm, a)
			if let {
				wantPa = l.pa + 4095
			}
			checkTranslate(t, r, p.root, va+4095, a, wantPa, let)
		}
	}
}

// turn lays a drawn page down, or takes one away, and holds the answer against the map.
func (p plain) turn(t *testing.T, s *scatter, r *ram.Ram, places []uint64) {
	t.Helper()
	va := pick(s, places)
	l, is := p.pages[va]
	if s.below(2) == 0 {
		pte, e := sv39.Unmap(r, p.root, va)
		want, wantPte := api.ErrSvNone, uint64(0)
		if is {
			want, wantPte = api.OK, l.pa/page*1024+l.perm+1
		}
		if e != want || pte != wantPte {
			t.Fatalf("Unmap(%x) = %x, %d", va, pte, e)
		}
		delete(p.pages, va)
		return
	}
	l = laid{uint64(s.below(1<<20)) * page, pick(s, []uint64{api.PteR, api.PteX, readable, readable | api.PteX, api.PteAll, readable | api.PteW | api.PteD, api.PteR | api.PteW})}
	before := p.nodes()
	grown := plain{pages: maps.Clone(p.pages)}
	grown.pages[va] = l
	need := grown.nodes() - before
	want := api.OK
	switch {
	case is:
		want = api.ErrSvTaken
	case need > r.Count():
		want = api.ErrSvRoom
	}
	if n := sv39.Need(r, p.root, va); n != need {
		t.Fatalf("Need(%x) = %d, want %d", va, n, need)
	}
	mustBe(t, "map", sv39.Map(r, p.root, va, l.pa, l.perm), want)
	if want == api.OK {
		p.pages[va] = l
	}
}

// Three tables in one memory, now and then without room: each is a map (P4.10), apart from the others and from frames that are no nodes (P4.11), and all is given back (P4.12).
func TestTablesAreMaps(t *testing.T) {
	places := []uint64{0, page, 2 * page, 511 * page, 1 << 21, 1<<21 + page, 2 << 21, 511 << 21, 1 << 30, 1<<30 + page, 1<<30 + 1<<21, 77 << 30, api.TrapFrame, api.Tramp}
	s := scatter(6)
	for _, frames := range []int{9, 14, 20, 40} {
		r := memory(t, frames)
		strange, _ := r.Alloc()
		for i := range uint64(512) {
			r.Store(strange+8*i, 8, s.next())
		}
		kept, _ := r.Raw(strange)
		begin := r.Count()
		var tables []plain
		for range 3 {
			root, e := sv39.New(r)
			mustBe(t, "new", e, api.OK)
			tables = append(tables, plain{root, map[uint64]laid{}})
		}
		for range 400 {
			one := pick(&s, tables)
			var others [][]byte
			for _, p := range tables {
				for _, node := range sv39.Nodes(r, p.root) {
					if p.root != one.root {
						b, _ := r.Raw(node)
						others = append(others, b)
					}
				}
			}
			one.turn(t, &s, r, places)
			sum := 0
			for _, p := range tables {
				p.check(t, r, places)
				sum += p.nodes()
				for _, node := range sv39.Nodes(r, p.root) {
					if p.root != one.root {
						b, _ := r.Raw(node)
						if !slices.Equal(b, others[0]) {
							t.Fatalf("the node %x of another table has changed", node)
						}
						others = others[1:]
					}
				}
			}
			if r.Count() != begin-sum {
				t.Fatalf("%d free, want %d", r.Count(), begin-sum)
			}
		}
		for _, p := range tables {
			p.giveBack(t, r)
		}
		if r.Count() != begin {
			t.Errorf("%d free at the end, want %d", r.Count(), begin)
		}
		if b, _ := r.Raw(strange); !slices.Equal(b, kept) {
			t.Error("a frame that is no node has changed")
		}
	}
}

// giveBack takes all pages away, then the table (P4.12).
func (p plain) giveBack(t *testing.T, r *ram.Ram) {
	t.Helper()
	if len(p.pages) > 0 {
		mustBe(t, "free", sv39.Free(r, p.root), api.ErrSvLeft)
	}
	for va := range p.pages {
		_, e := sv39.Unmap(r, p.root, va)
		mustBe(t, "unmap", e, api.OK)
	}
	if n := sv39.Nodes(r, p.root); !slices.Equal(n, []uint64{p.root}) {
		t.Errorf("left are %x", n)
	}
	if b, _ := r.Raw(p.root); !slices.Equal(b, make([]byte, page)) {
		t.Error("the root is not all zero")
	}
	count := r.Count()
	mustBe(t, "free", sv39.Free(r, p.root), api.OK)
	if r.Count() != count+1 || !r.IsFree(p.root) {
		t.Errorf("Free gave %d frames back", r.Count()-count)
	}
}

// A memory full of nodes: as many as there is room for.
func TestManyNodes(t *testing.T) {
	r := memory(t, api.MaxFrames)
	root, _ := sv39.New(r)
	n := uint64(0)
	for ; ; n++ {
		va := n%256<<30 + n/256<<21 + n%512<<12
		e := sv39.Map(r, root, va, va, readable)
		if e == api.ErrSvRoom {
			break
		}
		mustBe(t, "map", e, api.OK)
	}
	if n != api.MaxFrames-2-256 || r.Count() != 0 {
		t.Errorf("%d pages, %d free", n, r.Count())
	}
	if nodes := sv39.Nodes(r, root); len(nodes) != api.MaxFrames-1 {
		t.Errorf("%d nodes", len(nodes))
	}
	for va := range sv39.Leaves(r, root) {
		checkTranslate(t, r, root, va+9, api.Load, va+9, true)
		_, e := sv39.Unmap(r, root, va)
		mustBe(t, "unmap", e, api.OK)
		n--
	}
	if n != 0 || r.Count() != api.MaxFrames-2 {
		t.Errorf("%d pages are left, %d free", n, r.Count())
	}
	mustBe(t, "free", sv39.Free(r, root), api.OK)
}
