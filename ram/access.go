package ram

import (
	"math/bits"

	"hartix/api"
)

// width is the kinds of number that a load or a store moves.
type width interface {
	uint8 | uint16 | uint32 | uint64
}

// number gives the W that stands at the beginning of room; if write is set, the lowest bytes of v are put there first. One function does both, so that the order of the bytes is told once.
func number[W width](room []byte, write bool, v uint64) uint64 {
	var seen W
	for i := range bits.Len64(uint64(^W(0))) / 8 {
		if write {
			room[i] = byte(v >> (8 * i))
		}
		seen |= W(room[i]) << (8 * i)
	}
	return uint64(seen)
}

// Load reads a number of 1, 2, 4 or 8 bytes (P3.5).
func (m *Ram) Load(pa uint64, n int) (uint64, bool) { return m.access(pa, n, false, 0) }

// Store writes a number of 1, 2, 4 or 8 bytes (P3.5).
func (m *Ram) Store(pa uint64, n int, v uint64) bool {
	_, ok := m.access(pa, n, true, v)
	return ok
}

func (m *Ram) access(pa uint64, n int, write bool, v uint64) (uint64, bool) {
	room, ok := m.reach(pa, n)
	if !ok {
		return 0, false
	}
	switch n {
	case 1:
		return number[uint8](room, write, v), true
	case 2:
		return number[uint16](room, write, v), true
	case 4:
		return number[uint32](room, write, v), true
	case 8:
		return number[uint64](room, write, v), true
	}
	return 0, false
}

// Read reads bytes (P3.5).
func (m *Ram) Read(pa uint64, n int) ([]byte, bool) {
	room, ok := m.reach(pa, n)
	if !ok || n == 0 {
		return nil, ok
	}
	return copied(room), true
}

// Write writes bytes (P3.5).
func (m *Ram) Write(pa uint64, b []byte) bool {
	room, ok := m.reach(pa, len(b))
	copy(room, b)
	return ok
}

// Raw looks at the bytes of any frame, free or held (P3.6).
func (m *Ram) Raw(pa uint64) ([]byte, bool) {
	if !isFrame(pa, m.Frames()) {
		return nil, false
	}
	return copied(m.frame(pa)), true
}

func copied(room []byte) []byte {
	b := make([]byte, len(room))
	copy(b, room)
	return b
}

// reach gives the memory's own n bytes from pa on, and whether n is right and all of them are of held frames. No byte is of a held frame, whatever pa is.
func (m *Ram) reach(pa uint64, n int) ([]byte, bool) {
	if !m.made() || n < 0 {
		return nil, false
	}
	if n == 0 {
		return nil, true
	}
	// Below RamBase this wraps to a number above every memory's size, and so is refused too.
	begin, size := pa-api.RamBase, uint64(len(m.bytes))
	if begin >= size || uint64(n) > size-begin {
		return nil, false
	}
	end := begin + uint64(n)
	for frame := pa - pa%api.PageSize; frame < api.RamBase+end; frame += api.PageSize {
		if !m.isHeld(frame) {
			return nil, false
		}
	}
	return m.bytes[begin:end], true
}
