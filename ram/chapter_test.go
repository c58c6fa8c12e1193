package ram_test

// What the chapter says, read a second time: a memory whose free list is a plain list and whose frames are apart, so that the tests do not lean on the code they test.

import (
	"bytes"
	"errors"
	"maps"
	"reflect"
	"slices"
	"testing"

	"hartix/api"
	"hartix/ram"
)

const (
	page = 4096
	base = 0x80000000
)

func frameAt(n int) uint64 { return base + uint64(n)*page }

type model struct {
	frames int
	free   []uint64 // the next one first
	held   map[uint64][]byte
}

func newModel(frames int) *model {
	tramp := make([]byte, page)
	copy(tramp, []byte{0x73, 0x00, 0x20, 0x10})
	w := &model{frames: frames, held: map[uint64][]byte{base: tramp}}
	for n := frames - 1; n > 0; n-- {
		w.free = append(w.free, frameAt(n))
	}
	return w
}

func (w *model) isFrame(pa uint64) bool {
	for n := range w.frames {
		if pa == frameAt(n) {
			return true
		}
	}
	return false
}

func (w *model) alloc() (uint64, bool) {
	if len(w.free) == 0 {
		return 0, false
	}
	pa := w.free[0]
	w.free = w.free[1:]
	w.held[pa] = make([]byte, page)
	return pa, true
}

func (w *model) giveBack(pa uint64) api.Errno {
	switch {
	case !w.isFrame(pa), pa == base:
		return api.ErrRamFrame
	case slices.Contains(w.free, pa):
		return api.ErrRamFree
	}
	delete(w.held, pa)
	w.free = append([]uint64{pa}, w.free...)
	return api.OK
}

// cell gives the byte at an address, nil if it is of no held frame.
func (w *model) cell(pa uint64) *byte {
	for address, frame := range w.held {
		if pa >= address && pa-address < page {
			return &frame[pa-address]
		}
	}
	return nil
}

// cells gives the bytes from an address on, nothing if one is of no held frame. (n is small, or the first byte beyond the memory ends it.)
func (w *model) cells(pa uint64, n int) ([]*byte, bool) {
	var all []*byte
	for i := 0; i < n; i++ {
		here := pa + uint64(i)
		c := w.cell(here)
		if c == nil || here < pa {
			return nil, false
		}
		all = append(all, c)
	}
	return all, n >= 0
}

func (w *model) load(pa uint64, n int) (uint64, bool) {
	all, ok := w.cells(pa, n)
	if !ok || n != 1 && n != 2 && n != 4 && n != 8 {
		return 0, false
	}
	v := uint64(0)
	for _, c := range slices.Backward(all) {
		v = v*256 + uint64(*c)
	}
	return v, true
}

func (w *model) store(pa uint64, n int, v uint64) bool {
	if _, ok := w.load(pa, n); !ok {
		return false
	}
	all, _ := w.cells(pa, n)
	for _, c := range all {
		*c = byte(v % 256)
		v /= 256
	}
	return true
}

func (w *model) read(pa uint64, n int) ([]byte, bool) {
	all, ok := w.cells(pa, n)
	var b []byte
	for _, c := range all {
		b = append(b, *c)
	}
	return b, ok
}

func (w *model) write(pa uint64, b []byte) bool {
	all, ok := w.cells(pa, len(b))
	for i, c := range all {
		*c = b[i]
	}
	return ok
}

func (w *model) raw(pa uint64) ([]byte, bool) {
	if frame, ok := w.held[pa]; ok {
		return frame, true
	}
	place := slices.Index(w.free, pa)
	if place < 0 {
		return nil, false
	}
	frame := bytes.Repeat([]byte{5}, page)
	behind := uint64(0)
	if place+1 < len(w.free) {
		behind = w.free[place+1]
	}
	for i := range 8 {
		frame[i] = byte(behind % 256)
		behind /= 256
	}
	return frame, true
}

func (w *model) image() api.RamImage {
	img := api.RamImage{Frames: w.frames, Free: slices.Clone(w.free)}
	if len(w.free) == 0 {
		img.Free = nil
	}
	for _, pa := range slices.Sorted(maps.Keys(w.held)) {
		img.Held = append(img.Held, api.RamFrame{Pa: pa, Data: slices.Clone(w.held[pa])})
	}
	return img
}

func freeOf(m *ram.Ram) []uint64 { return slices.Collect(m.FreeList()) }

// checkSame holds all that a memory tells against the model.
func checkSame(t *testing.T, what string, m *ram.Ram, w *model) {
	t.Helper()
	if m.Frames() != w.frames || m.Count() != len(w.free) {
		t.Fatalf("%s: Frames %d, Count %d, want %d, %d", what, m.Frames(), m.Count(), w.frames, len(w.free))
	}
	if l := freeOf(m); !slices.Equal(l, w.free) {
		t.Fatalf("%s: FreeList %x, want %x", what, l, w.free)
	}
	for n := range w.frames {
		pa := frameAt(n)
		if m.IsFree(pa) != slices.Contains(w.free, pa) {
			t.Fatalf("%s: IsFree(%x) = %v", what, pa, m.IsFree(pa))
		}
		got, ok := m.Raw(pa)
		want, _ := w.raw(pa)
		if !ok || !bytes.Equal(got, want) {
			t.Fatalf("%s: Raw(%x) = %x, %v", what, pa, got, ok)
		}
	}
	if img := m.Image(); !reflect.DeepEqual(img, w.image()) {
		t.Fatalf("%s: Image has Frames %d, Free %x, %d held; want %d, %x, %d", what, img.Frames, img.Free, len(img.Held), w.frames, w.free, len(w.held))
	}
}

func checkFault(t *testing.T, what string, m *ram.Ram, err error, at int, reason api.Errno) {
	t.Helper()
	if m != nil {
		t.Errorf("%s: a memory beside a refusal", what)
	}
	var f *api.Fault
	if !errors.As(err, &f) || error(f) != err {
		t.Fatalf("%s: %v is no fault", what, err)
	}
	if f.Layer != "ram" || f.At != at || f.Err != error(reason) {
		t.Errorf("%s: %+v, want At %d, %v", what, *f, at, reason)
	}
}

// both gives a memory and the model of it.
func both(t *testing.T, frames int) (*ram.Ram, *model) {
	t.Helper()
	m, err := ram.New(frames)
	if err != nil || m == nil {
		t.Fatalf("New(%d): %v", frames, err)
	}
	return m, newModel(frames)
}

// mixed gives a memory of 6 frames in which held and free ones alternate: frames 0, 2, 3 and 5 are held, and have other bytes each.
func mixed(t *testing.T) (*ram.Ram, *model) {
	t.Helper()
	m, w := both(t, 6)
	for range 5 {
		m.Alloc()
		w.alloc()
	}
	for _, n := range []int{1, 4} {
		m.Free(frameAt(n))
		w.giveBack(frameAt(n))
	}
	for _, n := range []int{0, 2, 3, 5} {
		b := make([]byte, page)
		for i := range b {
			b[i] = byte(n*67 + i*13 + i/256)
		}
		m.Write(frameAt(n), b)
		w.write(frameAt(n), b)
	}
	checkSame(t, "mixed", m, w)
	return m, w
}

// edges are addresses about a memory's borders, its frames' borders, and those of all numbers.
func edges(frames int) []uint64 {
	all := []uint64{0, 1, 4095, 4096, 1 << 12, 1 << 31, 1 << 32, 1<<32 + base, 1 << 56, 1 << 63, 1<<63 + base, 1<<64 - 1, 1<<64 - 2, 1<<64 - 8, 1<<64 - page, 1<<64 - base}
	for n := -1; n <= frames+1; n++ {
		for _, d := range []int{-8, -7, -4, -2, -1, 0, 1, 2, 3, 7, 8, 2048} {
			all = append(all, frameAt(n)+uint64(d))
		}
	}
	return all
}

// scatter gives numbers that look like none, the same each time.
type scatter uint64

func (s *scatter) next() uint64 {
	*s = *s*6364136223846793005 + 1442695040888963407
	x := uint64(*s)
	return x ^ x>>29
}

func (s *scatter) below(n int) int { return int(s.next() >> 8 % uint64(n)) }
