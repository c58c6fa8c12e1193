package ram_test

import (
	"slices"
	"testing"

	"hartix/ram"
)

// someAddress is mostly of a frame, often at a border.
func someAddress(s *scatter, frames int) uint64 {
	pa := frameAt(s.below(frames+2) - 1)
	switch s.below(4) {
	case 0:
		return pa
	case 1:
		return pa + uint64(s.below(page))
	case 2:
		return pa - uint64(s.below(9))
	}
	return pa + uint64(s.below(9))
}

// walk does what is drawn with a memory and its model, and holds them against each other.
func walk(t *testing.T, m *ram.Ram, w *model, steps int, from scatter) {
	t.Helper()
	s := from
	for range steps {
		one(t, m, w, &s)
	}
	checkSame(t, "behind a walk", m, w)
}

func one(t *testing.T, m *ram.Ram, w *model, s *scatter) {
	t.Helper()
	pa := someAddress(s, w.frames)
	switch s.below(6) {
	case 0:
		got, ok := m.Alloc()
		if want, wantOk := w.alloc(); got != want || ok != wantOk {
			t.Fatalf("Alloc = %x, %v, want %x, %v", got, ok, want, wantOk)
		}
	case 1:
		if got, want := m.Free(pa), w.giveBack(pa); got != want {
			t.Fatalf("Free(%x) = %d, want %d", pa, got, want)
		}
	case 2:
		n, v := 1<<s.below(4), s.next()
		if got, want := m.Store(pa, n, v), w.store(pa, n, v); got != want {
			t.Fatalf("Store(%x, %d) = %v", pa, n, got)
		}
	case 3:
		n := 1 << s.below(4)
		got, ok := m.Load(pa, n)
		if want, wantOk := w.load(pa, n); got != want || ok != wantOk {
			t.Fatalf("Load(%x, %d) = %x, %v, want %x, %v", pa, n, got, ok, want, wantOk)
		}
	case 4:
		b := slices.Repeat([]byte{byte(s.next()), byte(s.next()), 0}, s.below(1500))
		if got, want := m.Write(pa, b), w.write(pa, b); got != want {
			t.Fatalf("Write(%x, %d bytes) = %v", pa, len(b), got)
		}
	case 5:
		n := s.below(5000)
		got, ok := m.Read(pa, n)
		if want, wantOk := w.read(pa, n); !slices.Equal(got, want) || ok != wantOk {
			t.Fatalf("Read(%x, %d) = %v", pa, n, ok)
		}
	}
	if m.Count() != len(w.free) {
		t.Fatalf("Count = %d, want %d", m.Count(), len(w.free))
	}
}

// P3.8 is told of all that follows: many short lives of small memories, in which frames are often wanting.
func TestWalks(t *testing.T) {
	for _, frames := range []int{1, 2, 3, 5, 8, 20} {
		for from := range 12 {
			m, w := both(t, frames)
			for i := range 5 {
				walk(t, m, w, 40, scatter(100*frames+10*from+i))
			}
		}
	}
}
