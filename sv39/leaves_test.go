package sv39_test

import (
	"iter"
	"maps"
	"math"
	"slices"
	"testing"

	"hartix/api"
	"hartix/ram"
	"hartix/sv39"
)

func tableOf(t *testing.T, frames int, vas ...uint64) (*ram.Ram, uint64) {
	t.Helper()
	r := memory(t, frames)
	root, _ := sv39.New(r)
	for _, va := range vas {
		mustBe(t, "map", sv39.Map(r, root, va, va*4+page, api.PteR), api.OK)
	}
	return r, root
}

func vasOf(r *ram.Ram, root uint64) []uint64 {
	var all []uint64
	for va := range sv39.Leaves(r, root) {
		all = append(all, va)
	}
	return all
}

// Leaves of every level, at both ends of the lower and of the upper half.
func TestLeavesOfEveryLevel(t *testing.T) {
	r := memory(t, 16)
	root, _ := sv39.New(r)
	const bits = api.PteV | api.PteX | 0x300
	var want []leafAt
	put := func(node, i, e, va uint64) {
		r.Store(node+8*i, 8, e)
		if kindOf(e, 0) == "leaf" {
			want = append(want, leafAt{va, e})
		}
	}
	for _, i := range []uint64{0, 255, 256, 511} {
		middle, _ := r.Alloc()
		put(root, i, middle/page*1024+1, 0)
		put(middle, 0, i<<19|bits, vaOf(i, 0, 0, 0))
		low, _ := r.Alloc()
		put(middle, 511, low/page*1024+1, 0)
		put(low, 0, i<<10|bits, vaOf(i, 511, 0, 0))
		put(low, 511, i<<11|bits, vaOf(i, 511, 511, 0))
		if i == 0 || i == 256 {
			put(root, i+1, i<<28|bits, vaOf(i+1, 0, 0, 0))
		}
	}
	if got := leavesOf(r, root); !slices.Equal(got, want) || !slices.Equal(got, through(t, r, root).leaves) {
		t.Errorf("Leaves = %x, want %x", got, want)
	}
	if !slices.IsSortedFunc(want, func(a, b leafAt) int {
		if a.va < b.va {
			return -1
		}
		return 1
	}) {
		t.Error("they do not rise")
	}
}

func TestNodesOrder(t *testing.T) {
	r, root := tableOf(t, 16, 255<<30+3<<21, 0, 255<<30, 1<<30, 1<<21)
	// By Alloc's order: f e (255, 3), d c (0, 0), b (255, 0), a 9 (1, 0), 8 (0, 1).
	if got, want := sv39.Nodes(r, root), []uint64{0x8000f000, 0x8000c000, 0x8000b000, 0x80007000, 0x80009000, 0x80008000, 0x8000e000, 0x8000a000, 0x8000d000}; !slices.Equal(got, want) {
		t.Errorf("Nodes = %x, want %x", got, want)
	}
}

func TestNodesIsNew(t *testing.T) {
	r, root := tableOf(t, 16, 0, 1<<30)
	one, two := sv39.Nodes(r, root), sv39.Nodes(r, root)
	clear(one[:cap(one)])
	if !slices.Equal(two, through(t, r, root).nodes) || !slices.Equal(sv39.Nodes(r, root), two) {
		t.Error("two answers of Nodes share memory")
	}
}

// It may be left early, ranged over again, and twice at one time.
func TestLeavesRangedOver(t *testing.T) {
	vas := []uint64{0, page, 1 << 21, 1 << 30, api.MaxVA - page}
	r, root := tableOf(t, 20, vas...)
	leaves := sv39.Leaves(r, root)
	for n := range len(vas) {
		var got []uint64
		for va := range leaves {
			got = append(got, va)
			if len(got) > n {
				break
			}
		}
		if !slices.Equal(got, vas[:n+1]) {
			t.Errorf("left behind %d: %x", n+1, got)
		}
	}
	if all := maps.Collect(leaves); len(all) != len(vas) {
		t.Errorf("ranged over again: %x", all)
	}
	nextOne, stopOne := iter.Pull2(leaves)
	nextTwo, stopTwo := iter.Pull2(leaves)
	defer stopOne()
	defer stopTwo()
	nextOne()
	for _, want := range vas[1:] {
		one, _, _ := nextOne()
		two, _, _ := nextTwo()
		if one != want || two >= one {
			t.Errorf("side by side: %x, %x", one, two)
		}
	}
	sv39.Unmap(r, root, 0)
	if got := vasOf(r, root); !slices.Equal(got, vas[1:]) {
		t.Errorf("behind a change: %x", got)
	}
	if e, ok := nextEntry(leaves); !ok || e != page {
		t.Errorf("the same iterator behind a change: %x, %v", e, ok)
	}
}

func nextEntry(leaves iter.Seq2[uint64, uint64]) (uint64, bool) {
	for va := range leaves {
		return va, true
	}
	return 0, false
}

// An iterator made ahead of its table tells the table that there is when it is ranged over.
func TestLeavesMadeEarly(t *testing.T) {
	r := memory(t, 8)
	leaves := sv39.Leaves(r, base+7*page)
	if _, ok := nextEntry(leaves); ok {
		t.Error("a page of no table")
	}
	root, _ := sv39.New(r)
	sv39.Map(r, root, page, 0, api.PteR)
	if va, ok := nextEntry(leaves); va != page || !ok {
		t.Errorf("%x, %v", va, ok)
	}
	sv39.Unmap(r, root, page)
	sv39.Free(r, root)
	if _, ok := nextEntry(leaves); ok {
		t.Error("a page of a table that is gone")
	}
}

// Each row: pages at first, what is done at which page, and what is given.
func TestLeavesAsTheTableIsThen(t *testing.T) {
	type change struct{ unmap, lay []uint64 }
	const none = math.MaxUint64
	for what, e := range map[string]struct {
		pages   []uint64
		changes map[uint64]change
		want    []uint64
	}{
		"a later page comes":        {[]uint64{page}, map[uint64]change{page: {lay: []uint64{3 * page}}}, []uint64{page, 3 * page}},
		"an earlier page comes":     {[]uint64{page}, map[uint64]change{page: {lay: []uint64{0}}}, []uint64{page}},
		"a later page goes":         {[]uint64{0, page, 2 * page}, map[uint64]change{0: {unmap: []uint64{page}}}, []uint64{0, 2 * page}},
		"a later node goes":         {[]uint64{0, 1 << 21, 1 << 30}, map[uint64]change{0: {unmap: []uint64{1 << 21, 1 << 30}}}, []uint64{0}},
		"a later node comes":        {[]uint64{0}, map[uint64]change{0: {lay: []uint64{1 << 21, 1 << 30}}}, []uint64{0, 1 << 21, 1 << 30}},
		"each goes":                 {[]uint64{0, page, 1 << 21, 1 << 30}, map[uint64]change{0: {unmap: []uint64{0}}, page: {unmap: []uint64{page}}, 1 << 21: {unmap: []uint64{1 << 21}}, 1 << 30: {unmap: []uint64{1 << 30}}}, []uint64{0, page, 1 << 21, 1 << 30}},
		"its nodes serve elsewhere": {[]uint64{0}, map[uint64]change{0: {unmap: []uint64{0}, lay: []uint64{1<<30 + 5*page}}}, []uint64{0, 1<<30 + 5*page}},
		"its node in the same half": {[]uint64{0}, map[uint64]change{0: {unmap: []uint64{0}, lay: []uint64{1<<21 + 5*page}}}, []uint64{0, 1<<21 + 5*page}},
		"its nodes come again":      {[]uint64{0}, map[uint64]change{0: {unmap: []uint64{0}, lay: []uint64{5 * page}}}, []uint64{0, 5 * page}},
		"its nodes serve below":     {[]uint64{1 << 30}, map[uint64]change{1 << 30: {unmap: []uint64{1 << 30}, lay: []uint64{5 * page}}}, []uint64{1 << 30}},
		"two go, two others come":   {[]uint64{0, 1 << 30}, map[uint64]change{0: {unmap: []uint64{0, 1 << 30}, lay: []uint64{1<<21 + page, 7 << 30}}}, []uint64{0, 1<<21 + page, 7 << 30}},
		"nothing":                   {nil, map[uint64]change{none: {}}, nil},
	} {
		r, root := tableOf(t, 20, e.pages...)
		var got []uint64
		for va := range sv39.Leaves(r, root) {
			got = append(got, va)
			for _, gone := range e.changes[va].unmap {
				_, errno := sv39.Unmap(r, root, gone)
				mustBe(t, what, errno, api.OK)
			}
			for _, come := range e.changes[va].lay {
				mustBe(t, what, sv39.Map(r, root, come, 0, api.PteR), api.OK)
			}
		}
		if !slices.Equal(got, e.want) {
			t.Errorf("%s: %x, want %x", what, got, e.want)
		}
	}
}

// Entries that change by hand while they are ranged over: great leaves, bad ones, and the table's end.
func TestLeavesChangedByHand(t *testing.T) {
	r, root := tableOf(t, 20, 0, page, 1<<30, 2<<30)
	var got []leafAt
	for va, pte := range sv39.Leaves(r, root) {
		got = append(got, leafAt{va, pte})
		switch len(got) {
		case 1:
			r.Store(root, 8, api.PteV|api.PteX)       // serves 0 on, which was come to
			r.Store(root+8, 8, 5<<28|api.PteV)        // a pointer to no node
			r.Store(root+16, 8, 3<<28|api.PteV|0b110) // a great leaf
		case 2:
			r.Store(root+24, 8, api.PteV|api.PteW)
			r.Store(root+8*511, 8, 9<<28|api.PteV|0b1000)
		}
	}
	want := []leafAt{{0, page>>2 | 0b11}, {2 << 30, 3<<28 | 0b111}, {vaOf(511, 0, 0, 0), 9<<28 | 0b1001}}
	if !slices.Equal(got, want) {
		t.Errorf("%x, want %x", got, want)
	}

	// A node that is pointed to no more where it was, but from further on.
	for _, now := range []uint64{0, api.PteV | api.PteW, api.PteV | api.PteU, api.PteV | 1<<63} {
		r, root = tableOf(t, 20, 0, page)
		pointer, _ := r.Load(root, 8)
		var vas []uint64
		for va := range sv39.Leaves(r, root) {
			vas = append(vas, va)
			if va == 0 {
				r.Store(root, 8, pointer&^api.PteV|now)
				r.Store(root+8, 8, pointer)
			}
		}
		if !slices.Equal(vas, []uint64{0, 1 << 30, 1<<30 + page}) {
			t.Errorf("a node pointed to from elsewhere (%x): %x", now, vas)
		}
	}

	r, root = tableOf(t, 20, 0, page, 1<<30, 2<<30)
	got = nil
	for va, pte := range sv39.Leaves(r, root) {
		got = append(got, leafAt{va, pte})
		r.Free(root)
	}
	if len(got) != 1 {
		t.Errorf("of a root that is gone: %x", got)
	}
}

// The next page is the lowest above the last, as the table is then: drawn changes against a plain map.
func TestLeavesUnderDrawnChanges(t *testing.T) {
	s := scatter(5)
	places := []uint64{0, page, 5 * page, 511 * page, 1 << 21, 1<<21 + page, 9 << 21, 1 << 30, 1<<30 + 5*page, 1<<30 + 511<<21, 2 << 30, 200<<30 + 1<<21, api.MaxVA - page}
	moved := 0
	for range 1500 {
		r := memory(t, 40)
		root, _ := sv39.New(r)
		laid := map[uint64]bool{}
		turn := func() {
			va := pick(&s, places)
			if laid[va] {
				_, e := sv39.Unmap(r, root, va)
				mustBe(t, "unmap", e, api.OK)
				delete(laid, va)
				return
			}
			mustBe(t, "map", sv39.Map(r, root, va, 0, api.PteR), api.OK)
			laid[va] = true
		}
		for range s.below(8) {
			turn()
		}
		last, began := uint64(0), false
		next := func() (uint64, bool) {
			for _, va := range slices.Sorted(maps.Keys(laid)) {
				if !began || va > last {
					return va, true
				}
			}
			return 0, false
		}
		want, more := next()
		for va := range sv39.Leaves(r, root) {
			if !more || va != want {
				t.Fatalf("given %x, want %x, %v", va, want, more)
			}
			last, began = va, true
			for range s.below(6) {
				turn()
				moved++
			}
			want, more = next()
		}
		if more {
			t.Fatalf("%x is not given", want)
		}
	}
	if moved < 5000 {
		t.Errorf("%d changes", moved)
	}
}
