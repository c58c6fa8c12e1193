package file_test

// Rows of drawn calls, each held against what the chapter says (P12.8 to P12.10).

import (
	"fmt"
	"math"
	"testing"

	"hartix/api"
)

// drawnFile gives the number of an open file; seldom another one.
func (w *world) drawnFile(s *scatter) int {
	if s.below(20) == 0 {
		return pick(s, -1, 100, math.MinInt, math.MaxInt, s.below(100))
	}
	from := s.below(100)
	for k := range 100 {
		if _, ok := w.m.files[(from+k)%100]; ok {
			return (from + k) % 100
		}
	}
	return 0
}

func drawnIno(s *scatter) int {
	return pick(s, root, fileF, fileF, terminal, odd, folder, fileG, fileG, terminal2, major257, pick(s, -1, 0, nobody, 200, s.below(200)))
}

func drawnNumber(s *scatter) int {
	return pick(s, 0, 1, 1, 2, s.below(20), s.below(200), s.below(600), 511, 512, 513, s.below(5000))
}

// turn makes one drawn call, and tells how it ended.
func (w *world) turn(s *scatter, opens int) string {
	switch k := s.below(100); {
	case k < opens:
		_, errno := w.open(drawnIno(s), s.below(4) > 0, s.below(2) > 0)
		return fmt.Sprintf("Open %d", errno)
	case k < 2*opens:
		_, _, errno := w.pipe()
		return fmt.Sprintf("Pipe %d", errno)
	case k < 2*opens+5:
		return fmt.Sprintf("Hold %d", w.hold(w.drawnFile(s)))
	case k < 2*opens+15:
		wake, errno := w.drop(w.drawnFile(s))
		return fmt.Sprintf("Drop %d %d", errno, len(wake))
	case k < 2*opens+18:
		w.keys(pick(s, "a", "line\n", "two\nlines\n", "\x04", "end\x04", "\b", "\x15"))
		return "Type"
	case k < 2*opens+20:
		return w.turnTree(s)
	case s.below(2) == 0:
		n := pick(s, drawnNumber(s), drawnNumber(s), drawnNumber(s), pick(s, -1, math.MinInt, math.MaxInt, 1<<32))
		got := w.read(w.drawnFile(s), n)
		return fmt.Sprintf("Read %d %d %v", got.How, got.Chan.Kind, len(got.Data) > 0)
	}
	sent := w.write(w.drawnFile(s), w.fresh(drawnNumber(s)))
	return fmt.Sprintf("Write %d %d %v", sent.How, sent.Chan.Kind, sent.N > 0)
}

// turnTree does something with the tree that is not the table's.
func (w *world) turnTree(s *scatter) string {
	switch s.below(8) {
	case 0, 1, 2, 3:
		w.trunc(pick(s, fileF, fileG))
		return "Trunc"
	case 4:
		w.unlink(pick(s, "f", "g", "d", "con"))
		return "Unlink"
	case 5:
		w.leave(s.below(6))
		return "Alloc"
	}
	if ino := pick(s, root, fileF, fileG); w.x.Look(ino).Ino != 0 {
		w.holdIno(ino)
	}
	return "tree.Hold"
}

func TestDrawnCalls(t *testing.T) {
	s := scatter(7)
	seen := map[string]int{}
	for range 60 {
		w := beginWith(t, pick(&s, 12, 20, 40))
		opens := pick(&s, 4, 8, 25)
		for range 250 {
			seen[w.turn(&s, opens)]++
		}
	}
	for _, outcome := range []string{
		"Open 0", fmt.Sprint("Open ", int(api.ErrFileIno)), fmt.Sprint("Open ", int(api.ErrFileFull)),
		"Pipe 0", fmt.Sprint("Pipe ", int(api.ErrFileFull)), fmt.Sprint("Pipe ", int(api.ErrFilePipe)),
		"Hold 0", fmt.Sprint("Hold ", int(api.ErrFileNone)), "Drop 0 0", "Drop 0 1", fmt.Sprintf("Drop %d 0", api.ErrFileNone),
		"Read 1 0 true", "Read 1 0 false", "Read 2 4 false", "Read 2 3 false", "Read 3 0 false",
		"Write 1 0 true", "Write 1 0 false", "Write 2 5 true", "Write 2 5 false", "Write 3 0 false",
		"Type", "Trunc", "Unlink", "Alloc", "tree.Hold",
	} {
		if seen[outcome] < 10 {
			t.Errorf("%q came %d times", outcome, seen[outcome])
		}
	}
	if t.Failed() {
		t.Log(seen)
	}
}

// Two tables that were told the same answer the same (DOC.md, One answer), whatever else lies in their memories.
func TestOneAnswer(t *testing.T) {
	one, two := beginWith(t, 60), beginWith(t, 90)
	two.leave(one.r[0].Count())
	s, same := scatter(5), scatter(5)
	for k := range 300 {
		if got, want := one.turn(&s, 10), two.turn(&same, 10); got != want {
			t.Fatalf("call %d: %s, %s", k, got, want)
		}
	}
}
