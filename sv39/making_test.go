package sv39_test

import (
	"math"
	"slices"
	"testing"

	"hartix/api"
	"hartix/ram"
	"hartix/sv39"
)

func TestNew(t *testing.T) {
	r := memory(t, 4)
	for _, want := range []uint64{0x80003000, 0x80002000, 0x80001000} {
		like := twin(t, r)
		like.Alloc()
		root, e := sv39.New(r)
		if root != want || e != api.OK {
			t.Errorf("New = %x, %d, want %x", root, e, want)
		}
		checkMemory(t, "New", r, like)
		if n := sv39.Nodes(r, root); !slices.Equal(n, []uint64{root}) {
			t.Errorf("Nodes of an empty table: %x", n)
		}
		if l := leavesOf(r, root); l != nil {
			t.Errorf("Leaves of an empty table: %x", l)
		}
	}
	like := twin(t, r)
	if root, e := sv39.New(r); root != 0 || e != api.ErrSvRoom {
		t.Errorf("New without a free frame = %x, %d", root, e)
	}
	checkMemory(t, "New refused", r, like)
}

// checkMap holds a Map, all that it does to the memory, and the Need ahead of it, against the chapter.
func checkMap(t *testing.T, r *ram.Ram, root, va, pa, perm uint64) api.Errno {
	t.Helper()
	like := twin(t, r)
	if got, want := sv39.Need(r, root, va), wantNeed(t, r, root, va); got != want {
		t.Errorf("Need(%x, %x) = %d, want %d", root, va, got, want)
	}
	want := wantMap(t, like, root, va, pa, perm)
	if got := sv39.Map(r, root, va, pa, perm); got != want {
		t.Fatalf("Map(%x, %x, %x, %x) = %d, want %d", root, va, pa, perm, got, want)
	}
	checkMemory(t, "Map", r, like)
	return want
}

// checkUnmap likewise.
func checkUnmap(t *testing.T, r *ram.Ram, root, va uint64) api.Errno {
	t.Helper()
	like := twin(t, r)
	wantPte, want := wantUnmap(t, like, root, va)
	if pte, got := sv39.Unmap(r, root, va); pte != wantPte || got != want {
		t.Fatalf("Unmap(%x, %x) = %x, %d, want %x, %d", root, va, pte, got, wantPte, want)
	}
	checkMemory(t, "Unmap", r, like)
	return want
}

// checkFree likewise.
func checkFree(t *testing.T, r *ram.Ram, root uint64) api.Errno {
	t.Helper()
	like := twin(t, r)
	want := wantFree(t, like, root)
	if got := sv39.Free(r, root); got != want {
		t.Fatalf("Free(%x) = %d, want %d", root, got, want)
	}
	checkMemory(t, "Free", r, like)
	return want
}

func mustBe(t *testing.T, what string, got, want api.Errno) {
	t.Helper()
	if got != want {
		t.Fatalf("%s: %d, want %d", what, got, want)
	}
}

func TestUserPages(t *testing.T) {
	for _, va := range []uint64{0, page, 511 * page, 512 * page, 1 << 30, 1<<30 - page, 1<<38 - 1<<30, api.MaxVA - page, api.Tramp, api.TrapFrame} {
		r := memory(t, 3)
		root, _ := sv39.New(r)
		mustBe(t, "unmap", checkUnmap(t, r, root, va), api.ErrSvNone)
		mustBe(t, "map", checkMap(t, r, root, va, 0, api.PteR), api.ErrSvRoom)
		r = memory(t, 4)
		root, _ = sv39.New(r)
		mustBe(t, "map", checkMap(t, r, root, va, 0, api.PteR), api.OK)
		if l := leavesOf(r, root); !slices.Equal(l, []leafAt{{va, api.PteV | api.PteR}}) {
			t.Errorf("Leaves with a page at %x: %x", va, l)
		}
		mustBe(t, "unmap", checkUnmap(t, r, root, va), api.OK)
	}
	r := memory(t, 8)
	root, _ := sv39.New(r)
	for _, va := range []uint64{1, 8, 0x800, page - 1, page + 1, api.MaxVA, api.MaxVA - 1, api.MaxVA + page, 1 << 39, 1<<39 + page, 1 << 63, 0xffffffc000000000, 1<<64 - page, math.MaxUint64} {
		mustBe(t, "map", checkMap(t, r, root, va, 0, api.PteR), api.ErrSvVa)
		mustBe(t, "unmap", checkUnmap(t, r, root, va), api.ErrSvVa)
	}
}

func TestPhysicalPages(t *testing.T) {
	r := memory(t, 8)
	root, _ := sv39.New(r)
	va := uint64(0)
	for _, pa := range []uint64{0, page, base, base + page, root, 1 << 55, api.MaxPa - page, 1<<56 - 1<<30} {
		mustBe(t, "map", checkMap(t, r, root, va, pa, readable), api.OK)
		checkTranslate(t, r, root, va+0x123, api.Load, pa+0x123, true)
		va += page
	}
	for _, pa := range []uint64{1, 8, base + 2048, page - 1, api.MaxPa - 1, api.MaxPa, api.MaxPa + page, 1 << 63, 1<<64 - page, math.MaxUint64} {
		mustBe(t, "map", checkMap(t, r, root, va, pa, readable), api.ErrSvPa)
	}
}

// All rows of bits 0 to 9, and each bit above.
func TestPermissions(t *testing.T) {
	r := memory(t, 6)
	root, _ := sv39.New(r)
	mustBe(t, "map", checkMap(t, r, root, 0, 0, api.PteR), api.OK)
	const pa, va = 0x345000, 0x7000
	allowed := 0
	for perm := range uint64(1024) {
		if checkMap(t, r, root, va, pa, perm) == api.OK {
			allowed++
			checkStands(t, r, root, va+4, pa>>2|perm|api.PteV, 0)
			mustBe(t, "unmap", checkUnmap(t, r, root, va), api.OK)
		}
	}
	if allowed != 5*16 {
		t.Errorf("%d permissions are allowed", allowed)
	}
	for bit := 8; bit < 64; bit++ {
		mustBe(t, "map", checkMap(t, r, root, va, pa, readable|1<<bit), api.ErrSvPerm)
	}
	mustBe(t, "map", checkMap(t, r, root, va, pa, math.MaxUint64), api.ErrSvPerm)
}

// Of several reasons the chapter's first holds: each right part beside all later ones wrong.
func TestFirstReason(t *testing.T) {
	r := memory(t, 2)
	root, _ := sv39.New(r)
	r.Store(root+8, 8, api.PteV|api.PteR) // taken from 2^30 on; no frame is free
	const wrong = 5
	for _, e := range []struct {
		root, va, pa, perm uint64
		want               api.Errno
	}{
		{wrong, wrong, wrong, wrong, api.ErrSvVa},
		{wrong, 1 << 30, wrong, wrong, api.ErrSvPa},
		{wrong, 1 << 30, page, wrong, api.ErrSvPerm},
		{wrong, 1 << 30, page, api.PteR, api.ErrSvRoot},
		{root, 1 << 30, page, api.PteR, api.ErrSvTaken},
		{root, 1 << 31, page, api.PteR, api.ErrSvRoom},
	} {
		mustBe(t, "map", checkMap(t, r, e.root, e.va, e.pa, e.perm), e.want)
	}
	mustBe(t, "unmap", checkUnmap(t, r, wrong, wrong), api.ErrSvVa)
	mustBe(t, "unmap", checkUnmap(t, r, wrong, page), api.ErrSvRoot)
	mustBe(t, "unmap", checkUnmap(t, r, root, page), api.ErrSvNone)
	for _, e := range []struct{ root, va uint64 }{{wrong, 0}, {root, 1}, {root, api.MaxVA}, {root, 1 << 30}, {root, 1 << 63}} {
		if n := sv39.Need(r, e.root, e.va); n != 0 {
			t.Errorf("Need(%x, %x) = %d", e.root, e.va, n)
		}
	}
	if n := sv39.Need(r, root, 1<<31); n != 2 {
		t.Errorf("Need, when no frame is free: %d", n)
	}
}

// Every kind of entry, at each level, in a page's way.
func TestTaken(t *testing.T) {
	kinds := map[string]uint64{
		"a leaf":                 api.PteV | api.PteR,
		"a leaf to fetch":        api.PteV | api.PteX,
		"written, not read":      api.PteV | api.PteW,
		"a high bit":             api.PteV | 1<<54,
		"a leaf at a wrong page": 1<<10 | api.PteV | api.PteR,
		"a pointer with U":       api.PteV | api.PteU,
		"a pointer with A":       api.PteV | api.PteA,
		"a pointer with D":       api.PteV | api.PteD,
		"a pointer to nothing":   api.PteV,
		"a pointer to the first": base/page<<10 | api.PteV,
	}
	for what, e := range kinds {
		for level := range 3 {
			r, nodes := chain(t, 3, 5)
			r.Store(nodes[level]+8*[]uint64{7, 5, 3}[level], 8, e)
			if got := checkMap(t, r, nodes[2], vaOf(3, 5, 7, 0), 0, api.PteR); got != api.ErrSvTaken {
				t.Errorf("%s at level %d: %d", what, level, got)
			}
			want := api.ErrSvNone
			if level == 0 && kindOf(e, 0) == "leaf" {
				want = api.OK
			}
			if got := checkUnmap(t, r, nodes[2], vaOf(3, 5, 7, 0)); got != want {
				t.Errorf("%s at level %d: Unmap %d", what, level, got)
			}
		}
	}
}

// What is empty may have any bits but V: a page is laid over it, and a node that has no other is given back.
func TestEmptyEntriesWithBits(t *testing.T) {
	const litter = math.MaxUint64 - 1
	for level := range 3 {
		r, nodes := chain(t, 3, 5)
		for _, node := range nodes {
			for i := range uint64(512) {
				if e, _ := r.Load(node+8*i, 8); e == 0 {
					r.Store(node+8*i, 8, litter)
				}
			}
		}
		va := [3]uint64{vaOf(3, 5, 7, 0), vaOf(3, 6, 7, 0), vaOf(4, 6, 7, 0)}[level]
		if n := sv39.Need(r, nodes[2], va); n != level {
			t.Errorf("Need = %d at level %d", n, level)
		}
		mustBe(t, "map", checkMap(t, r, nodes[2], va, base, readable), api.OK)
		mustBe(t, "free", checkFree(t, r, nodes[2]), api.ErrSvLeft)
		mustBe(t, "unmap", checkUnmap(t, r, nodes[2], va), api.OK)
		mustBe(t, "free", checkFree(t, r, nodes[2]), api.OK)
	}
}

// With each number of free frames, for pages that need 0, 1 and 2 nodes.
func TestRoom(t *testing.T) {
	for need, va := range []uint64{page, 1 << 21, 1 << 30} {
		for free := range 4 {
			r := memory(t, 8)
			root, _ := sv39.New(r)
			mustBe(t, "map", checkMap(t, r, root, 0, 0, api.PteR), api.OK)
			for r.Count() > free {
				r.Alloc()
			}
			want := api.OK
			if free < need {
				want = api.ErrSvRoom
			}
			if got := checkMap(t, r, root, va, base, api.PteR); got != want {
				t.Errorf("Map that needs %d of %d frames: %d", need, free, got)
			}
		}
	}
}

// A node of each level has its 512 entries, and is given back with the last of them, in whichever order.
func TestFullNodes(t *testing.T) {
	r := memory(t, 5)
	root, _ := sv39.New(r)
	for i := range uint64(512) {
		place := i * 77 % 512
		mustBe(t, "map", sv39.Map(r, root, place*page, place<<20, api.PteR|api.PteG), api.OK)
	}
	mustBe(t, "one more", sv39.Map(r, root, 512*page, 0, api.PteR), api.OK)
	mustBe(t, "two more", sv39.Map(r, root, 1024*page, 0, api.PteR), api.ErrSvRoom)
	if l := leavesOf(r, root); len(l) != 513 || !slices.Equal(l, through(t, r, root).leaves) {
		t.Errorf("%d leaves", len(l))
	}
	for i := range uint64(512) {
		place := i * 55 % 512
		pte, e := sv39.Unmap(r, root, place*page)
		if pte != place<<18|api.PteV|api.PteR|api.PteG || e != api.OK {
			t.Fatalf("Unmap(%x) = %x, %d", place*page, pte, e)
		}
		if want := int(i / 511); r.Count() != want {
			t.Fatalf("behind %d: %d free", i, r.Count())
		}
	}
	mustBe(t, "the last", checkUnmap(t, r, root, 512*page), api.OK)
	mustBe(t, "free", checkFree(t, r, root), api.OK)
}

// A node stays while it has anything but empty entries, bad ones and great leaves too.
func TestUnmapLeavesWhatIsTaken(t *testing.T) {
	for level := range 2 {
		for _, e := range []uint64{api.PteV, api.PteV | api.PteR, api.PteV | 1<<63, api.PteV | api.PteW} {
			for _, i := range []uint64{0, 9, 511} {
				r, nodes := chain(t, 3, 5)
				va := vaOf(3, 5, 7, 0)
				mustBe(t, "map", checkMap(t, r, nodes[2], va, 0, api.PteR), api.OK)
				r.Store(nodes[level]+8*i, 8, e)
				mustBe(t, "unmap", checkUnmap(t, r, nodes[2], va), api.OK)
				if want := 4 + level; r.Count() != want {
					t.Errorf("with %x at level %d: %d free", e, level, r.Count())
				}
			}
		}
	}
}

func TestUnmapOfGreatLeaves(t *testing.T) {
	for level := 1; level <= 2; level++ {
		r, nodes := chain(t, 3, 5)
		r.Store(nodes[level]+8*[]uint64{7, 5, 3}[level], 8, api.PteV|api.PteR)
		mustBe(t, "unmap", checkUnmap(t, r, nodes[2], vaOf(3, 5, 0, 0)), api.ErrSvNone)
		mustBe(t, "free", checkFree(t, r, nodes[2]), api.ErrSvLeft)
	}
}

// Free goes by Nodes' order, and asks for leaves anywhere, the upper half too.
func TestFree(t *testing.T) {
	r := memory(t, 20)
	root, _ := sv39.New(r)
	for _, va := range []uint64{5 << 30, 1 << 21, 0, 5<<30 + 7<<21, page} {
		mustBe(t, "map", checkMap(t, r, root, va, base, api.PteX), api.OK)
		mustBe(t, "free", checkFree(t, r, root), api.ErrSvLeft)
	}
	for node := range slices.Values(sv39.Nodes(r, root)) {
		for i := range uint64(512) {
			if e, _ := r.Load(node+8*i, 8); kindOf(e, 0) == "leaf" {
				r.Store(node+8*i, 8, 0)
			}
		}
	}
	nodes := sv39.Nodes(r, root)
	if len(nodes) != 7 || !slices.Equal(nodes, through(t, r, root).nodes) {
		t.Errorf("Nodes = %x", nodes)
	}
	for _, i := range []uint64{0, 255, 256, 511} {
		old, _ := r.Load(root+8*i, 8)
		r.Store(root+8*i, 8, api.PteV|api.PteR)
		mustBe(t, "free", checkFree(t, r, root), api.ErrSvLeft)
		r.Store(root+8*i, 8, old)
	}
	r.Store(root+8*300, 8, api.PteV|1<<60)
	mustBe(t, "free", checkFree(t, r, root), api.OK)
	free := slices.Collect(r.FreeList())
	slices.Reverse(free[:7])
	if !slices.Equal(free[:7], nodes) {
		t.Errorf("given back: %x, told were %x", free[:7], nodes)
	}
	mustBe(t, "again", checkFree(t, r, root), api.ErrSvRoot)
}

func TestMemoriesThatNoCallMade(t *testing.T) {
	for _, r := range []*ram.Ram{nil, {}} {
		for _, root := range []uint64{0, base, base + page, math.MaxUint64} {
			for _, va := range []uint64{0, 1, api.MaxVA, math.MaxUint64} {
				if pte, level, ok := sv39.Entry(r, root, va); pte != 0 || level != 0 || ok {
					t.Errorf("Entry = %x, %d, %v", pte, level, ok)
				}
				for _, a := range accesses {
					checkTranslate(t, r, root, va, a, 0, false)
				}
				if n := sv39.Need(r, root, va); n != 0 {
					t.Errorf("Need = %d", n)
				}
				mustBe(t, "Map", sv39.Map(r, root, va, 1, 1), api.ErrZero)
				mustBe(t, "Map", sv39.Map(r, root, va, 0, api.PteR), api.ErrZero)
				pte, e := sv39.Unmap(r, root, va)
				if pte != 0 || e != api.ErrZero {
					t.Errorf("Unmap = %x, %d", pte, e)
				}
			}
			if n := sv39.Nodes(r, root); n != nil {
				t.Errorf("Nodes = %x", n)
			}
			leaves := sv39.Leaves(r, root)
			if leaves == nil {
				t.Fatal("Leaves is nil")
			}
			for va := range leaves {
				t.Errorf("Leaves gives %x", va)
			}
			mustBe(t, "Free", sv39.Free(r, root), api.ErrZero)
		}
		if root, e := sv39.New(r); root != 0 || e != api.ErrZero {
			t.Errorf("New = %x, %d", root, e)
		}
	}
}

// The memory of one frame has no node.
func TestMemoryOfOneFrame(t *testing.T) {
	r := memory(t, 1)
	before := twin(t, r)
	if root, e := sv39.New(r); root != 0 || e != api.ErrSvRoom {
		t.Errorf("New = %x, %d", root, e)
	}
	mustBe(t, "map", sv39.Map(r, base, 0, 0, api.PteR), api.ErrSvRoot)
	mustBe(t, "free", sv39.Free(r, base), api.ErrSvRoot)
	checkMemory(t, "one frame", r, before)
}
