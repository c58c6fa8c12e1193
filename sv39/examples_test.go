package sv39_test

import (
	"slices"
	"testing"

	"hartix/api"
	"hartix/ram"
	"hartix/sv39"
)

const readable = api.PteR | api.PteU | api.PteA

// exampleTable is the memory that the chapter's examples begin with.
func exampleTable(t *testing.T) (*ram.Ram, uint64) {
	t.Helper()
	r := memory(t, 8)
	if r.Count() != 7 {
		t.Fatalf("%d free", r.Count())
	}
	root, e := sv39.New(r)
	if root != 0x80007000 || e != api.OK {
		t.Fatalf("New = %x, %d", root, e)
	}
	if n := sv39.Need(r, root, 0); n != 2 {
		t.Errorf("Need = %d", n)
	}
	if e := sv39.Map(r, root, 0, 0x80001000, readable); e != api.OK {
		t.Fatalf("Map = %d", e)
	}
	for at, want := range map[uint64]uint64{0x80007000: 0x20001801, 0x80006000: 0x20001401, 0x80005000: 0x20000453} {
		if e, _ := r.Load(at, 8); e != want {
			t.Errorf("at %x stands %x, want %x", at, e, want)
		}
	}
	return r, root
}

func checkTranslate(t *testing.T, r *ram.Ram, root, va uint64, a api.Access, want uint64, wantOk bool) {
	t.Helper()
	if pa, ok := sv39.Translate(r, root, va, a); pa != want || ok != wantOk {
		t.Errorf("Translate(%x, %d) = %x, %v, want %x, %v", va, a, pa, ok, want, wantOk)
	}
}

func TestExamples(t *testing.T) {
	r, root := exampleTable(t)
	checkTranslate(t, r, root, 0x18, api.Load, 0x80001018, true)
	checkTranslate(t, r, root, 0x18, api.Store, 0, false)
	checkTranslate(t, r, root, 0x1000, api.Load, 0, false)
	if pte, level, ok := sv39.Entry(r, root, 0); pte != 0x20000453 || level != 0 || !ok {
		t.Errorf("Entry = %x, %d, %v", pte, level, ok)
	}

	if n := sv39.Need(r, root, 0x1000); n != 0 {
		t.Errorf("Need(1000H) = %d", n)
	}
	if e := sv39.Map(r, root, 0x1000, 0x80002000, readable); e != api.OK || r.Count() != 4 {
		t.Errorf("Map(1000H) = %d, %d free", e, r.Count())
	}
	if a, b := sv39.Need(r, root, 0x200000), sv39.Need(r, root, 0x40000000); a != 1 || b != 2 {
		t.Errorf("Need = %d, %d", a, b)
	}

	for _, e := range []struct {
		va, perm uint64
		want     api.Errno
	}{{0, readable, api.ErrSvTaken}, {0x800, readable, api.ErrSvVa}, {0x2000, api.PteW | api.PteU, api.ErrSvPerm}, {0x2000, api.PteV | api.PteR, api.ErrSvPerm}} {
		if got := sv39.Map(r, root, e.va, 0x80001000, e.perm); got != e.want {
			t.Errorf("Map(%x, %b) = %d, want %d", e.va, e.perm, got, e.want)
		}
	}

	if pte, e := sv39.Unmap(r, root, 0); pte != 0x20000453 || e != api.OK || r.Count() != 4 {
		t.Errorf("Unmap(0) = %x, %d; %d free", pte, e, r.Count())
	}
	if _, e := sv39.Unmap(r, root, 0x1000); e != api.OK || r.Count() != 6 {
		t.Errorf("Unmap(1000H) = %d; %d free", e, r.Count())
	}
	if free := slices.Collect(r.FreeList()); !slices.Equal(free[:2], []uint64{0x80006000, 0x80005000}) {
		t.Errorf("free are %x", free)
	}
	if e, _ := r.Load(root, 8); e != 0 {
		t.Errorf("the root's entry 0 is %x", e)
	}
	if e := sv39.Free(r, root); e != api.OK || r.Count() != 7 {
		t.Errorf("Free = %d, %d free", e, r.Count())
	}
}

func TestExampleOfAGreatLeaf(t *testing.T) {
	r := memory(t, 3)
	root, _ := sv39.New(r)
	const bits = api.PteV | api.PteR | api.PteW | api.PteX | api.PteU | api.PteA | api.PteD
	r.Store(root, 8, bits)
	for _, a := range []api.Access{api.Fetch, api.Load, api.Store} {
		checkTranslate(t, r, root, 0x12345678, a, 0x12345678, true)
	}
	r.Store(root, 8, 1<<10|bits)
	for _, a := range []api.Access{api.Fetch, api.Load, api.Store} {
		checkTranslate(t, r, root, 0x12345678, a, 0, false)
	}
	if _, _, ok := sv39.Entry(r, root, 0x12345678); ok {
		t.Error("Entry finds what is bad")
	}
}
