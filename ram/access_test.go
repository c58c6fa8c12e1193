package ram_test

import (
	"bytes"
	"math"
	"slices"
	"testing"
)

func TestLoad(t *testing.T) {
	m, w := mixed(t)
	for _, pa := range edges(6) {
		for n := -1; n <= 17; n++ {
			got, ok := m.Load(pa, n)
			want, wantOk := w.load(pa, n)
			if got != want || ok != wantOk {
				t.Errorf("Load(%x, %d) = %x, %v, want %x, %v", pa, n, got, ok, want, wantOk)
			}
		}
	}
	checkSame(t, "Load", m, w)
}

func TestWrongNumbersOfBytes(t *testing.T) {
	m, w := mixed(t)
	for _, n := range []int{math.MinInt, math.MinInt + 8, -1 << 32, -8, -4, -2, -1, 16, 32, 64, page, 1<<32 + 8, 1 << 62, math.MaxInt} {
		if v, ok := m.Load(base, n); v != 0 || ok {
			t.Errorf("Load of %d bytes: %x, %v", n, v, ok)
		}
		if m.Store(base, n, 1<<64-1) {
			t.Errorf("Store of %d bytes", n)
		}
	}
	for _, n := range []int{math.MinInt, -1 << 32, -page, -1, 6*page + 1, 1 << 32, 1<<32 + 8, 1 << 62, math.MaxInt} {
		for _, pa := range []uint64{0, base, base + 2*page, 1<<64 - 1} {
			if b, ok := m.Read(pa, n); b != nil || ok {
				t.Errorf("Read(%x, %d): %d bytes, %v", pa, n, len(b), ok)
			}
		}
	}
	checkSame(t, "refused", m, w)
}

func TestStore(t *testing.T) {
	m, w := mixed(t)
	for i, pa := range edges(6) {
		for n := -1; n <= 9; n++ {
			for _, v := range []uint64{0, 1<<64 - 1, 0x8877665544332211 + uint64(i)} {
				if got, want := m.Store(pa, n, v), w.store(pa, n, v); got != want {
					t.Errorf("Store(%x, %d) = %v", pa, n, got)
				}
			}
		}
		checkSame(t, "Store", m, w)
	}
}

func TestStoreKeepsTheLowBytes(t *testing.T) {
	m, _ := both(t, 2)
	for _, e := range []struct {
		n    int
		want uint64
	}{{1, 0xffffffffffffff88}, {2, 0xffffffffffff7788}, {4, 0xffffffff55667788}, {8, 0x1122334455667788}} {
		m.Store(base+100, 8, 1<<64-1)
		m.Store(base+100, e.n, 0x1122334455667788)
		if v, ok := m.Load(base+100, 8); v != e.want || !ok {
			t.Errorf("behind a Store of %d bytes: %x", e.n, v)
		}
	}
}

func TestRead(t *testing.T) {
	m, w := mixed(t)
	for _, pa := range edges(6) {
		for _, n := range []int{0, 1, 2, 3, 8, page - 1, page, page + 1, 2*page - 1, 2 * page, 2*page + 1, 3 * page} {
			got, ok := m.Read(pa, n)
			want, wantOk := w.read(pa, n)
			if !slices.Equal(got, want) || ok != wantOk || (got == nil) != (want == nil) {
				t.Errorf("Read(%x, %d) = %d bytes, %v, want %d, %v", pa, n, len(got), ok, len(want), wantOk)
			}
		}
	}
	checkSame(t, "Read", m, w)
}

func TestReadIsNew(t *testing.T) {
	m, w := mixed(t)
	one, _ := m.Read(base+page*2, 2*page)
	two, _ := m.Read(base+page*2, 2*page)
	clear(one[:cap(one)])
	checkSame(t, "what Read told was changed", m, w)
	if want, _ := w.read(base+page*2, 2*page); !bytes.Equal(two, want) {
		t.Error("two answers of Read share memory")
	}
	m.Store(base+page*2, 8, 99)
	if two[0] == 99 {
		t.Error("what Read told goes on with the memory")
	}
}

func TestWrite(t *testing.T) {
	m, w := mixed(t)
	s := scatter(3)
	for _, pa := range edges(6) {
		for _, n := range []int{0, 1, 3, 8, page, page + 1, 2 * page, 2*page + 1} {
			b := make([]byte, n)
			for i := range b {
				b[i] = byte(s.next())
			}
			kept := slices.Clone(b)
			if got, want := m.Write(pa, b), w.write(pa, b); got != want {
				t.Errorf("Write(%x, %d bytes) = %v", pa, n, got)
			}
			if !bytes.Equal(b, kept) {
				t.Fatal("Write has changed what it was given")
			}
			clear(b)
		}
		checkSame(t, "Write", m, w)
	}
}

func TestNothingReadAndWritten(t *testing.T) {
	m, w := mixed(t)
	for _, pa := range append(edges(6), w.free...) {
		if b, ok := m.Read(pa, 0); b != nil || !ok {
			t.Errorf("Read(%x, 0) = %v, %v", pa, b, ok)
		}
		if !m.Write(pa, nil) || !m.Write(pa, []byte{}) {
			t.Errorf("Write(%x) of nothing", pa)
		}
		if v, ok := m.Load(pa, 0); v != 0 || ok {
			t.Errorf("Load(%x, 0) = %x, %v", pa, v, ok)
		}
		if m.Store(pa, 0, 5) {
			t.Errorf("Store(%x, 0)", pa)
		}
	}
	checkSame(t, "nothing", m, w)
}

func TestWriteTakesNoSpareRoom(t *testing.T) {
	m, w := mixed(t)
	b := []byte{1, 2, 3, 4, 5, 6, 7, 8}
	m.Write(base+16, b[:4])
	w.write(base+16, []byte{1, 2, 3, 4})
	if !slices.Equal(b, []byte{1, 2, 3, 4, 5, 6, 7, 8}) {
		t.Errorf("Write has changed the room behind: %v", b)
	}
	checkSame(t, "Write of a beginning", m, w)
}
