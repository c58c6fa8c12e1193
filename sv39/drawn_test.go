package sv39_test

import (
	"slices"
	"testing"

	"hartix/api"
	"hartix/ram"
	"hartix/sv39"
)

// The indexes that drawn tables use: few, so that ways meet.
func someIndexes() []uint64 { return []uint64{0, 1, 2, 9, 255, 256, 510, 511} }

// drawnEntry gives an entry that may be anything; pointers lead to what next tells.
func drawnEntry(s *scatter, next func() uint64) uint64 {
	bits := s.next() & 0x3ff
	switch s.below(12) {
	case 0:
		return s.next()
	case 1:
		return s.next()&^1 | 1<<uint(s.below(64))
	case 2:
		return uint64(s.below(4))<<27 | bits | api.PteV
	case 3:
		return s.next()&(1<<44-1)>>18<<28 | bits | api.PteV
	case 4:
		return s.next()&(1<<44-1)>>9<<19 | bits | api.PteV
	case 5:
		return s.next()&(1<<44-1)<<10 | bits | api.PteV | api.PteR
	case 6:
		return next()/page*1024 | bits | api.PteV
	case 7:
		return next()/page*1024 | bits&(api.PteG|0x300) | api.PteV
	}
	return next()/page*1024 | api.PteV
}

// drawnTable gives a memory whose held frames are full of drawn entries; a frame is pointed to once only, if once is set.
func drawnTable(t *testing.T, s *scatter, frames int, once bool) (*ram.Ram, uint64) {
	t.Helper()
	r := memory(t, frames)
	var held []uint64
	for range frames - 1 {
		pa, _ := r.Alloc()
		held = append(held, pa)
	}
	for range s.below(4) {
		i := s.below(len(held))
		r.Free(held[i])
		held = slices.Delete(held, i, i+1)
	}
	root := held[0]
	unused := slices.Clone(held[1:])
	next := func() uint64 {
		switch {
		case s.below(8) == 0:
			return pick(s, []uint64{0, base, base - page, base + uint64(frames)*page, 1<<56 - page, base + page*uint64(s.below(frames))})
		case !once:
			return pick(s, held)
		case len(unused) == 0:
			return base
		}
		pa := unused[0]
		unused = unused[1:]
		return pa
	}
	for _, node := range held {
		for range 2 + s.below(6) {
			r.Store(node+8*pick(s, someIndexes()), 8, drawnEntry(s, next))
		}
	}
	return r, root
}

func drawnVa(s *scatter) uint64 {
	va := vaOf(pick(s, someIndexes()), pick(s, someIndexes()), pick(s, someIndexes()), 0)
	switch s.below(8) {
	case 0:
		return va ^ 1<<uint(s.below(64))
	case 1:
		return va + uint64(s.below(page))
	}
	return va
}

func checkLooks(t *testing.T, s *scatter, r *ram.Ram, root uint64) {
	t.Helper()
	for range 40 {
		va := drawnVa(s)
		pte, level, ok := sv39.Entry(r, root, va)
		wantPte, wantLevel, wantOk := wantEntry(t, r, root, va)
		if pte != wantPte || level != wantLevel || ok != wantOk {
			t.Fatalf("Entry(%x, %x) = %x, %d, %v, want %x, %d, %v", root, va, pte, level, ok, wantPte, wantLevel, wantOk)
		}
		a := pick(s, accesses)
		want, wantOk := wantTranslate(t, r, root, va, a)
		checkTranslate(t, r, root, va, a, want, wantOk)
		if got, want := sv39.Need(r, root, va), wantNeed(t, r, root, va); got != want {
			t.Fatalf("Need(%x, %x) = %d, want %d", root, va, got, want)
		}
	}
	g := through(t, r, root)
	if n := sv39.Nodes(r, root); !slices.Equal(n, g.nodes) {
		t.Fatalf("Nodes(%x) = %x, want %x", root, n, g.nodes)
	}
	if l := leavesOf(r, root); !slices.Equal(l, g.leaves) {
		t.Fatalf("Leaves(%x) = %x, want %x", root, l, g.leaves)
	}
}

// Tables that nobody made, frames reached twice among them: what is only looked at.
func TestDrawnTablesLookedAt(t *testing.T) {
	s := scatter(1)
	twice, leaves, deep := 0, 0, 0
	for i := range 400 {
		r, root := drawnTable(t, &s, 5+s.below(8), i%2 == 0)
		before := twin(t, r)
		checkLooks(t, &s, r, root)
		checkMemory(t, "looking", r, before)
		g := through(t, r, root)
		leaves += len(g.leaves)
		if g.twice {
			twice++
		}
		if len(g.nodes) > 3 {
			deep++
		}
	}
	if twice < 80 || leaves < 400 || deep < 80 {
		t.Errorf("the tables are too plain: %d, %d, %d", twice, leaves, deep)
	}
}

// Tables that nobody made, no frame reached twice: what changes them.
func TestDrawnTablesChanged(t *testing.T) {
	s := scatter(2)
	outcomes := map[api.Errno]int{}
	for range 300 {
		r, root := drawnTable(t, &s, 5+s.below(8), true)
		for range 25 {
			g := through(t, r, root)
			if g.twice {
				break
			}
			va := drawnVa(&s)
			if len(g.leaves) > 0 && s.below(2) == 0 {
				va = pick(&s, g.leaves).va
			}
			switch s.below(8) {
			case 0:
				outcomes[checkFree(t, r, root)]++
			case 1, 2, 3:
				outcomes[checkUnmap(t, r, root, va)]++
			default:
				perm := pick(&s, []uint64{api.PteR, api.PteX, readable, api.PteAll, api.PteW, 0, api.PteV | api.PteR, s.next()})
				pa := pick(&s, []uint64{0, base, base + page, 1<<56 - page, 1 << 56, 1})
				outcomes[checkMap(t, r, root, va, pa, perm)]++
			}
		}
		if !through(t, r, root).twice {
			checkLooks(t, &s, r, root)
		}
	}
	for _, e := range []api.Errno{api.OK, api.ErrSvVa, api.ErrSvPa, api.ErrSvPerm, api.ErrSvRoot, api.ErrSvTaken, api.ErrSvRoom, api.ErrSvNone, api.ErrSvLeft} {
		if outcomes[e] < 10 {
			t.Errorf("outcome %d came %d times", e, outcomes[e])
		}
	}
}

// Of tables in which a frame is reached twice it is promised that the calls end.
func TestTablesReachedTwiceEnd(t *testing.T) {
	s := scatter(3)
	for range 400 {
		r, root := drawnTable(t, &s, 5+s.below(5), false)
		for range 20 {
			va := drawnVa(&s) & (api.MaxVA - page)
			switch s.below(6) {
			case 0:
				sv39.Free(r, root)
			case 1, 2:
				sv39.Unmap(r, root, va)
			default:
				sv39.Map(r, root, va, base, api.PteR)
			}
		}
	}
}

// selfLed gives tables whose pointers lead back, or together, by hand.
func selfLed(t *testing.T) map[string]func() (*ram.Ram, uint64) {
	t.Helper()
	point := func(r *ram.Ram, node, i, to uint64) { r.Store(node+8*i, 8, to/page*1024+1) }
	const bits = api.PteV | api.PteR | api.PteU | api.PteA
	return map[string]func() (*ram.Ram, uint64){
		"the root in itself": func() (*ram.Ram, uint64) {
			r, n := chain(t, 0, 0)
			for i := range uint64(512) {
				point(r, n[2], i, n[2])
			}
			return r, n[2]
		},
		"level 1 in the root again": func() (*ram.Ram, uint64) {
			r, n := chain(t, 3, 5)
			point(r, n[1], 6, n[2])
			point(r, n[2], 4, n[1])
			r.Store(n[0], 8, 77<<10|bits)
			r.Store(n[1]+8*511, 8, 512<<10|bits)
			return r, n[2]
		},
		"level 0 as level 1 later": func() (*ram.Ram, uint64) {
			r, n := chain(t, 3, 5)
			other, _ := r.Alloc()
			point(r, n[2], 4, n[0])
			point(r, n[0], 1, other) // bad at level 0
			r.Store(other, 8, bits)
			r.Store(n[0], 8, bits)
			return r, n[2]
		},
		"level 1 as level 0 earlier": func() (*ram.Ram, uint64) {
			r, n := chain(t, 3, 5)
			other, _ := r.Alloc()
			point(r, n[1], 4, other)
			point(r, n[2], 9, other)
			point(r, other, 0, n[0])
			r.Store(other+8, 8, 3<<19|bits)
			r.Store(n[0]+8*5, 8, bits)
			return r, n[2]
		},
		"one node for all": func() (*ram.Ram, uint64) {
			r, n := chain(t, 0, 0)
			for i := range uint64(512) {
				point(r, n[2], i, n[1])
				point(r, n[1], i, n[0])
				r.Store(n[0]+8*i, 8, i<<10|bits)
			}
			return r, n[2]
		},
		"level 1 in itself": func() (*ram.Ram, uint64) {
			r, n := chain(t, 3, 5)
			point(r, n[1], 0, n[1])
			point(r, n[1], 511, n[1])
			r.Store(n[0]+8*5, 8, bits)
			return r, n[2]
		},
	}
}

func TestTablesThatLeadBack(t *testing.T) {
	s := scatter(4)
	for what, make := range selfLed(t) {
		r, root := make()
		if g := through(t, r, root); !g.twice {
			t.Errorf("%s: no frame is reached twice", what)
		}
		checkLooks(t, &s, r, root)
		for i := range uint64(512) {
			for _, va := range []uint64{vaOf(i, 5, 5, 0), vaOf(i, i, i, 0), vaOf(3, i, 5, 0), vaOf(3, 5, i, 0), vaOf(i, 0, i, 0)} {
				pte, level, ok := sv39.Entry(r, root, va)
				if wantPte, wantLevel, wantOk := wantEntry(t, r, root, va); pte != wantPte || level != wantLevel || ok != wantOk {
					t.Fatalf("%s: Entry(%x) = %x, %d, %v", what, va, pte, level, ok)
				}
			}
		}
		for _, va := range []uint64{0, page, 1 << 21, 1 << 30, 3<<30 + 5<<21, api.MaxVA - page} {
			r, root := make()
			sv39.Map(r, root, va, base, api.PteR)
			sv39.Unmap(r, root, va)
			sv39.Free(r, root)
		}
	}
}
