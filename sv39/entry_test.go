package sv39_test

import (
	"math"
	"slices"
	"testing"

	"hartix/api"
	"hartix/ram"
	"hartix/sv39"
)

// chain gives a memory with a root, a node of level 1 at the root's entry i2 and one of level 0 at that one's entry i1.
func chain(t *testing.T, i2, i1 uint64) (r *ram.Ram, nodes [3]uint64) {
	t.Helper()
	r = memory(t, 8)
	for level := range 3 {
		nodes[level], _ = r.Alloc()
	}
	r.Store(nodes[2]+8*i2, 8, nodes[1]/page*1024+1)
	r.Store(nodes[1]+8*i1, 8, nodes[0]/page*1024+1)
	return r, nodes
}

func vaOf(i2, i1, i0, offset uint64) uint64 {
	va := i2<<30 + i1<<21 + i0<<12 + offset
	if i2 >= 256 {
		va += 0xffffff8000000000
	}
	return va
}

var accesses = []api.Access{api.Fetch, api.Load, api.Store, 0, 4, -1, math.MaxInt, math.MinInt}

func isLet(e uint64, a api.Access) bool {
	switch a {
	case api.Fetch:
		return isSet(e, bitU) && isSet(e, bitA) && isSet(e, bitX)
	case api.Load:
		return isSet(e, bitU) && isSet(e, bitA) && isSet(e, bitR)
	case api.Store:
		return isSet(e, bitU) && isSet(e, bitA) && isSet(e, bitW) && isSet(e, bitD)
	}
	return false
}

// checkStands holds Entry and Translate against what an entry that stands at the end of va's way is.
func checkStands(t *testing.T, r *ram.Ram, root, va, e uint64, level int) {
	t.Helper()
	isLeaf := kindOf(e, level) == "leaf"
	pte, l, ok := sv39.Entry(r, root, va)
	if ok != isLeaf || isLeaf && (pte != e || l != level) || !isLeaf && (pte != 0 || l != 0) {
		t.Errorf("Entry(%x) = %x, %d, %v; at level %d stands %x, %s", va, pte, l, ok, level, e, kindOf(e, level))
	}
	for _, a := range accesses {
		want := uint64(0)
		let := isLeaf && isLet(e, a)
		if let {
			want = pageOf(t, e)<<12 + va%(4096<<(9*level))
		}
		if pa, ok := sv39.Translate(r, root, va, a); pa != want || ok != let {
			t.Errorf("Translate(%x, %d) = %x, %v, want %x, %v; at level %d stands %x", va, a, pa, ok, want, let, level, e)
		}
	}
}

// Every row of bits 0 to 9, pages about the borders that the levels ask for, and each bit above the page: at each level.
func TestKindsOfEntries(t *testing.T) {
	pages := []uint64{0, 1, 1 << 8, 1 << 9, 3 << 9, 1<<17 + 1<<9, 1 << 17, 1 << 18, 1<<18 + 1<<17, 1<<18 + 1, 1 << 43, 1<<44 - 1, 1<<44 - 1<<9, 1<<44 - 1<<18, base/page + 1}
	const va = 3<<30 + 5<<21 + 7<<12 + 0x123
	r, nodes := chain(t, 3, 5)
	for level, node := range nodes {
		at := node + 8*[]uint64{7, 5, 3}[level]
		led, _ := r.Load(at, 8)
		for _, p := range pages {
			for low := range uint64(1024) {
				e := p<<10 | low
				r.Store(at, 8, e)
				checkStands(t, r, nodes[2], va, e, level)
			}
			for high := 54; high < 64; high++ {
				for _, low := range []uint64{0, 1, 2, 3, 0b1001, 0b1011, 0b11110001, 0b11111111, 0b100001} {
					e := 1<<high | p<<10 | low
					r.Store(at, 8, e)
					checkStands(t, r, nodes[2], va, e, level)
				}
			}
		}
		r.Store(at, 8, led)
	}
}

// A pointer's bits G, 8 and 9 do not stop it.
func TestPointersLeadOn(t *testing.T) {
	const e = 0x12345<<10 | api.PteV | api.PteR | api.PteU | api.PteA
	for low := range uint64(1024) {
		for level := 1; level <= 2; level++ {
			r, nodes := chain(t, 3, 5)
			r.Store(nodes[0]+8*7, 8, e)
			at := nodes[level] + 8*[]uint64{0, 5, 3}[level]
			led, _ := r.Load(at, 8)
			r.Store(at, 8, led&^1023|low)
			va := vaOf(3, 5, 7, 0xfff)
			pte, l, ok := sv39.Entry(r, nodes[2], va)
			want, wantLevel, wantOk := wantEntry(t, r, nodes[2], va)
			if pte != want || l != wantLevel || ok != wantOk {
				t.Errorf("with a pointer of bits %b at level %d: %x, %d, %v", low, level, pte, l, ok)
			}
			if low&^(api.PteG|0x300) == api.PteV && (pte != e || l != 0 || !ok) {
				t.Errorf("with a pointer of bits %b at level %d the leaf is not found", low, level)
			}
		}
	}
}

func TestIndexes(t *testing.T) {
	for level := range 3 {
		r, nodes := chain(t, 510, 2)
		leafOf := func(i uint64) uint64 { return (i*3+1)<<(9*level)<<10 | readable | api.PteV }
		for i := range uint64(512) {
			r.Store(nodes[level]+8*i, 8, leafOf(i))
		}
		for i := range uint64(512) {
			va := [3]uint64{vaOf(510, 2, i, 0xabc), vaOf(510, i, 77, 0xabc), vaOf(i, 300, 77, 0xabc)}[level]
			checkStands(t, r, nodes[2], va, leafOf(i), level)
		}
	}
}

// Each bit of 38 to 63 turned, alone and with all above or below it: only what is right finds a leaf.
func TestRightAddresses(t *testing.T) {
	r, nodes := chain(t, 0, 0)
	for i := uint64(1); i < 512; i++ {
		r.Store(nodes[2]+8*i, 8, i<<28|readable|api.PteV)
	}
	for _, i := range []uint64{1, 255, 257, 511} {
		va := vaOf(i, 9, 8, 7)
		checkStands(t, r, nodes[2], va, i<<28|readable|api.PteV, 2)
		for bit := 38; bit < 64; bit++ {
			for _, turned := range []uint64{1 << bit, math.MaxUint64 << bit, 1<<bit - 1<<38, 1<<bit - 1<<39} {
				other := va ^ turned
				pte, l, ok := sv39.Entry(r, nodes[2], other)
				if !isRight(other) && (pte != 0 || l != 0 || ok) || isRight(other) && !ok {
					t.Errorf("Entry(%x) = %x, %d, %v", other, pte, l, ok)
				}
				pa, ok := sv39.Translate(r, nodes[2], other, api.Load)
				if !isRight(other) && (pa != 0 || ok) || isRight(other) && !ok {
					t.Errorf("Translate(%x) = %x, %v", other, pa, ok)
				}
			}
		}
	}
}

// What is no node has no entries, as a root and behind a pointer.
func TestWhatIsNoNode(t *testing.T) {
	r := memory(t, 6)
	held, _ := r.Alloc()
	other, _ := r.Alloc()
	gone, _ := r.Alloc()
	r.Free(gone)
	const e = readable | api.PteV
	for _, pa := range []uint64{base, held, other} {
		for i := range uint64(512) {
			r.Store(pa+8*i, 8, e)
		}
	}
	before := twin(t, r)
	for _, root := range []uint64{0, 1, base, base + 8, held + 8, held + 1, held - 8, held - 4096 + 8, gone, base + 6*page, base - page, 1 << 56, 1<<64 - page, 1<<64 - 1, 1<<63 + held} {
		for _, va := range []uint64{0, 1 << 30, 511 << 12, api.MaxVA - page, 1<<64 - 1} {
			if pte, l, ok := sv39.Entry(r, root, va); pte != 0 || l != 0 || ok {
				t.Errorf("Entry(root %x, %x) = %x, %d, %v", root, va, pte, l, ok)
			}
			checkTranslate(t, r, root, va, api.Load, 0, false)
			if n := sv39.Need(r, root, va); n != 0 {
				t.Errorf("Need(root %x) = %d", root, n)
			}
		}
		if n := sv39.Nodes(r, root); n != nil {
			t.Errorf("Nodes(root %x) = %x", root, n)
		}
		if l := leavesOf(r, root); l != nil {
			t.Errorf("Leaves(root %x) = %x", root, l)
		}
		if e := sv39.Map(r, root, 0, 0, api.PteR); e != api.ErrSvRoot {
			t.Errorf("Map(root %x) = %d", root, e)
		}
		if pte, e := sv39.Unmap(r, root, 0); pte != 0 || e != api.ErrSvRoot {
			t.Errorf("Unmap(root %x) = %x, %d", root, pte, e)
		}
		if e := sv39.Free(r, root); e != api.ErrSvRoot {
			t.Errorf("Free(root %x) = %d", root, e)
		}
	}
	checkMemory(t, "roots that are none", r, before)

	root, _ := sv39.New(r)
	for _, pa := range []uint64{0, base, gone, base + 6*page, base - page, 1<<56 - page} {
		r.Store(root, 8, pa/page*1024+1)
		before := twin(t, r)
		if _, _, ok := sv39.Entry(r, root, 0); ok {
			t.Errorf("Entry finds something behind a pointer to %x", pa)
		}
		if n := sv39.Need(r, root, 0); n != 0 {
			t.Errorf("Need behind a pointer to %x: %d", pa, n)
		}
		if e := sv39.Map(r, root, 0, 0, api.PteR); e != api.ErrSvTaken {
			t.Errorf("Map behind a pointer to %x: %d", pa, e)
		}
		if _, e := sv39.Unmap(r, root, 0); e != api.ErrSvNone {
			t.Errorf("Unmap behind a pointer to %x: %d", pa, e)
		}
		if n := sv39.Nodes(r, root); !slices.Equal(n, []uint64{root}) {
			t.Errorf("Nodes with a pointer to %x: %x", pa, n)
		}
		if l := leavesOf(r, root); l != nil {
			t.Errorf("Leaves with a pointer to %x: %x", pa, l)
		}
		checkMemory(t, "a pointer to what is no node", r, before)
	}
}

func leavesOf(r *ram.Ram, root uint64) []leafAt {
	var all []leafAt
	for va, pte := range sv39.Leaves(r, root) {
		all = append(all, leafAt{va, pte})
	}
	return all
}
