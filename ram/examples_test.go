package ram_test

import (
	"bytes"
	"slices"
	"testing"

	"hartix/api"
	"hartix/ram"
)

const (
	frameT = 0x80000000
	frameA = 0x80001000
	frameB = 0x80002000
	frameC = 0x80003000
)

// example1 is the chapter's first example, on which the others stand.
func example1(t *testing.T) *ram.Ram {
	t.Helper()
	m, err := ram.New(4)
	if err != nil || m.Count() != 3 || !slices.Equal(freeOf(m), []uint64{frameC, frameB, frameA}) {
		t.Fatalf("New(4): %v, Count %d, FreeList %x", err, m.Count(), freeOf(m))
	}
	for _, e := range []struct {
		pa   uint64
		head []byte
		rest byte
	}{{frameC, []byte{0, 0x20, 0, 0x80, 0, 0, 0, 0}, 5}, {frameA, make([]byte, 8), 5}, {frameT, []byte{0x73, 0, 0x20, 0x10}, 0}} {
		want := append(slices.Clone(e.head), bytes.Repeat([]byte{e.rest}, 4096-len(e.head))...)
		if b, ok := m.Raw(e.pa); !ok || !bytes.Equal(b, want) {
			t.Errorf("Raw(%x) = %x", e.pa, b)
		}
	}
	for _, want := range []uint64{frameC, frameB} {
		if pa, ok := m.Alloc(); pa != want || !ok {
			t.Errorf("Alloc: %x, %v", pa, ok)
		}
	}
	if l := freeOf(m); !slices.Equal(l, []uint64{frameA}) {
		t.Errorf("FreeList %x", l)
	}
	return m
}

func checkLoad(t *testing.T, m *ram.Ram, pa uint64, n int, want uint64, wantOk bool) {
	t.Helper()
	if v, ok := m.Load(pa, n); v != want || ok != wantOk {
		t.Errorf("Load(%x, %d) = %x, %v", pa, n, v, ok)
	}
}

func TestExamples(t *testing.T) {
	m := example1(t)
	if !m.Store(frameB, 8, 0x0102030405060708) {
		t.Error("Store")
	}
	checkLoad(t, m, frameB, 2, 0x0708, true)
	checkLoad(t, m, frameB+7, 2, 0x0001, true)
	checkLoad(t, m, frameC-4, 8, 0, true)
	checkLoad(t, m, frameC+4092, 8, 0, false)

	if e := m.Free(frameB); e != api.OK || !slices.Equal(freeOf(m), []uint64{frameB, frameA}) {
		t.Errorf("Free(B) = %d, FreeList %x", e, freeOf(m))
	}
	checkLoad(t, m, frameB, 1, 0, false)
	for pa, want := range map[uint64]api.Errno{frameB: api.ErrRamFree, frameB + 8: api.ErrRamFrame, frameT: api.ErrRamFrame} {
		if e := m.Free(pa); e != want {
			t.Errorf("Free(%x) = %d", pa, e)
		}
	}
	if pa, ok := m.Alloc(); pa != frameB || !ok {
		t.Errorf("Alloc: %x, %v", pa, ok)
	}
	if b, ok := m.Read(frameB, 4096); !ok || !bytes.Equal(b, make([]byte, 4096)) {
		t.Errorf("B is not all zero: %x", b)
	}

	checkLoad(t, m, 0x7fffffff, 1, 0, false)
	checkLoad(t, m, 0xffffffffffffffff, 8, 0, false)
	checkLoad(t, m, frameC, 3, 0, false)
	if b, ok := m.Read(0, 0); b != nil || !ok {
		t.Errorf("Read(0, 0) = %v, %v", b, ok)
	}
}
