package ram_test

import (
	"slices"
	"testing"

	"hartix/api"
	"hartix/ram"
)

func TestRaw(t *testing.T) {
	m, w := mixed(t)
	for _, pa := range edges(6) {
		got, ok := m.Raw(pa)
		want, wantOk := w.raw(pa)
		if !slices.Equal(got, want) || ok != wantOk || (got == nil) != (want == nil) {
			t.Errorf("Raw(%x) = %d bytes, %v", pa, len(got), ok)
		}
	}
}

func TestRawIsNew(t *testing.T) {
	m, w := mixed(t)
	for n := range 6 {
		one, _ := m.Raw(frameAt(n))
		two, _ := m.Raw(frameAt(n))
		clear(one[:cap(one)])
		if want, _ := w.raw(frameAt(n)); !slices.Equal(two, want) {
			t.Error("two answers of Raw share memory")
		}
	}
	checkSame(t, "what Raw told was changed", m, w)
}

func TestFreeListLeftEarlyAndAgain(t *testing.T) {
	m, _ := both(t, 6)
	list := m.FreeList()
	for enough := range 6 {
		var seen []uint64
		for pa := range list {
			seen = append(seen, pa)
			if len(seen) > enough {
				break
			}
		}
		want := []uint64{frameAt(5), frameAt(4), frameAt(3), frameAt(2), frameAt(1)}[:min(enough+1, 5)]
		if !slices.Equal(seen, want) {
			t.Errorf("left early: %x, want %x", seen, want)
		}
	}
	if l := slices.Collect(list); len(l) != 5 {
		t.Errorf("again: %x", l)
	}
}

func TestFreeListAsTheRangingBegan(t *testing.T) {
	m, _ := both(t, 6)
	list := m.FreeList()
	if pa, ok := m.Alloc(); pa != frameAt(5) || !ok {
		t.Fatalf("Alloc: %x", pa)
	}
	want := freeOf(m)
	var seen []uint64
	for pa := range list {
		seen = append(seen, pa)
		got, _ := m.Alloc()
		if got != pa || !m.Store(pa, 8, 0xfffffffffffffff0) {
			t.Errorf("Alloc within the ranging: %x", got)
		}
	}
	if !slices.Equal(seen, want) || len(seen) != 4 {
		t.Errorf("seen %x, want %x", seen, want)
	}
	if l := slices.Collect(list); l != nil {
		t.Errorf("all are held: %x", l)
	}
}

func TestFreeListWhileFreeing(t *testing.T) {
	m, _ := both(t, 6)
	for range 3 {
		m.Alloc()
	}
	give := []uint64{frameAt(3), frameAt(4), frameAt(5)}
	var seen []uint64
	for pa := range m.FreeList() {
		seen = append(seen, pa)
		if e := m.Free(give[0]); e != api.OK {
			t.Errorf("Free: %d", e)
		}
		give = give[1:]
	}
	if !slices.Equal(seen, []uint64{frameAt(2), frameAt(1)}) {
		t.Errorf("seen %x", seen)
	}
	if l := freeOf(m); !slices.Equal(l, []uint64{frameAt(4), frameAt(3), frameAt(2), frameAt(1)}) {
		t.Errorf("behind it %x", l)
	}
}

func TestFreeListWithinItself(t *testing.T) {
	m, _ := both(t, 4)
	list := m.FreeList()
	n := 0
	for range list {
		for range list {
			n++
		}
	}
	if n != 9 {
		t.Errorf("%d pairs", n)
	}
}

func TestNobodysMemory(t *testing.T) {
	var none *ram.Ram
	for what, m := range map[string]*ram.Ram{"nil": none, "zero": {}} {
		for range 2 { // nothing of the first round may have made it a memory
			checkNobodys(t, what, m)
		}
	}
}

func checkNobodys(t *testing.T, what string, m *ram.Ram) {
	t.Helper()
	img := m.Image()
	if img.Frames != 0 || img.Free != nil || img.Held != nil || m.Frames() != 0 || m.Count() != 0 {
		t.Errorf("%s: Frames %d, Count %d, Image %v", what, m.Frames(), m.Count(), img)
	}
	if list := m.FreeList(); list == nil || slices.Collect(list) != nil {
		t.Errorf("%s: FreeList", what)
	}
	if pa, ok := m.Alloc(); pa != 0 || ok {
		t.Errorf("%s: Alloc = %x, %v", what, pa, ok)
	}
	for _, pa := range edges(2) {
		if m.IsFree(pa) || m.Free(pa) != api.ErrZero || m.Store(pa, 8, 1) || m.Write(pa, nil) || m.Write(pa, []byte{1}) {
			t.Errorf("%s: something is at %x", what, pa)
		}
		for n := -1; n < 9; n++ {
			if v, ok := m.Load(pa, n); v != 0 || ok {
				t.Errorf("%s: Load(%x, %d) = %x, %v", what, pa, n, v, ok)
			}
			if b, ok := m.Read(pa, n); b != nil || ok {
				t.Errorf("%s: Read(%x, %d) = %v, %v", what, pa, n, b, ok)
			}
		}
		if b, ok := m.Raw(pa); b != nil || ok {
			t.Errorf("%s: Raw(%x) = %v, %v", what, pa, b, ok)
		}
	}
}
