package ram_test

import (
	"math"
	"slices"
	"testing"

	"hartix/api"
	"hartix/ram"
)

func TestNew(t *testing.T) {
	for _, frames := range []int{1, 2, 3, 4, 16, 33} {
		m, w := both(t, frames)
		checkSame(t, "New", m, w)
	}
}

func TestNewOfAllFrames(t *testing.T) {
	m, w := both(t, api.MaxFrames)
	if m.Frames() != 4096 || m.Count() != 4095 || !slices.Equal(freeOf(m), w.free) {
		t.Fatalf("Frames %d, Count %d", m.Frames(), m.Count())
	}
	for _, n := range []int{0, 1, 2, 4094, 4095} {
		got, ok := m.Raw(frameAt(n))
		want, _ := w.raw(frameAt(n))
		if !ok || !slices.Equal(got, want) {
			t.Errorf("frame %d: %x", n, got[:9])
		}
	}
	for n := range 4095 {
		if pa, ok := m.Alloc(); pa != frameAt(4095-n) || !ok {
			t.Fatalf("Alloc %d: %x, %v", n, pa, ok)
		}
	}
	if pa, ok := m.Alloc(); pa != 0 || ok || m.Count() != 0 {
		t.Errorf("Alloc of none: %x, %v", pa, ok)
	}
	if b, ok := m.Read(base, 4096*page); !ok || len(b) != 4096*page {
		t.Errorf("Read of all: %v", ok)
	}
}

func TestNewRefuses(t *testing.T) {
	for _, frames := range []int{0, -1, math.MinInt, 4097, math.MaxInt, 1 << 52, 1<<52 + 4, 1 << 32} {
		m, err := ram.New(frames)
		checkFault(t, "New", m, err, 0, api.ErrRamSize)
		_, again := ram.New(frames)
		if err == again {
			t.Errorf("New(%d): the same fault twice", frames)
		}
	}
}

func TestNewIsApart(t *testing.T) {
	m, w := both(t, 3)
	n, v := both(t, 3)
	pa, _ := m.Alloc()
	w.alloc()
	m.Store(pa, 8, 77)
	w.store(pa, 8, 77)
	checkSame(t, "told", m, w)
	checkSame(t, "the other", n, v)
}

func TestIsFree(t *testing.T) {
	m, w := mixed(t)
	for _, pa := range edges(6) {
		if want := slices.Contains(w.free, pa); m.IsFree(pa) != want {
			t.Errorf("IsFree(%x) = %v", pa, !want)
		}
	}
}

func TestAllocGivesZeros(t *testing.T) {
	m, w := mixed(t)
	for range 4 {
		got, ok := m.Alloc()
		want, wantOk := w.alloc()
		if got != want || ok != wantOk {
			t.Fatalf("Alloc: %x, %v, want %x, %v", got, ok, want, wantOk)
		}
		checkSame(t, "Alloc", m, w)
	}
}

func TestFreeAnswers(t *testing.T) {
	m, w := mixed(t)
	for _, pa := range edges(6) {
		if got, want := m.Free(pa), w.giveBack(pa); got != want {
			t.Errorf("Free(%x) = %d, want %d", pa, got, want)
		}
		checkSame(t, "Free", m, w)
		if got, want := m.Free(pa), w.giveBack(pa); got != want || got == api.OK {
			t.Errorf("Free(%x) again = %d, want %d", pa, got, want)
		}
	}
	if m.Count() != 5 {
		t.Errorf("Count %d behind freeing all", m.Count())
	}
}

func TestLastFreedIsFirstGiven(t *testing.T) {
	m, _ := both(t, 9)
	for range 8 {
		m.Alloc()
	}
	order := []int{3, 8, 1, 5, 2, 7, 4, 6}
	for i, n := range order {
		if e := m.Free(frameAt(n)); e != api.OK || m.Count() != i+1 {
			t.Fatalf("Free of frame %d: %d, Count %d", n, e, m.Count())
		}
	}
	for i, n := range slices.Backward(order) {
		if pa, ok := m.Alloc(); pa != frameAt(n) || !ok || m.Count() != i {
			t.Errorf("Alloc: %x, %v, want frame %d", pa, ok, n)
		}
	}
}

func TestOneFrame(t *testing.T) {
	m, w := both(t, 1)
	if pa, ok := m.Alloc(); pa != 0 || ok {
		t.Errorf("Alloc: %x, %v", pa, ok)
	}
	if e := m.Free(base); e != api.ErrRamFrame {
		t.Errorf("Free of the trampoline: %d", e)
	}
	checkSame(t, "one frame", m, w)
	if !m.Store(base+4088, 8, 1<<63) || !w.store(base+4088, 8, 1<<63) {
		t.Error("the trampoline may be written")
	}
	checkSame(t, "one frame, written", m, w)
}
