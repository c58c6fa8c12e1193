package exec_test

// Programs, files, arguments and memories that are drawn, held against the chapter's second reading.

import (
	"slices"
	"testing"

	"hartix/api"
)

// drawnProgram gives a program that may be, of some pages.
func drawnProgram(s *scatter) api.Elf {
	var e api.Elf
	va := uint64(s.below(3)) * page
	for range 1 + s.below(pick(s, 1, 3, 8)) {
		seg := api.Seg{Va: va, Flags: pick(s, flagsThatMayBe()...), Data: pattern(pick(s, 0, 1, s.below(40), s.below(2*page), page), s.below(99))}
		seg.Mem = max(1, uint64(len(seg.Data)+pick(s, 0, 0, 1, s.below(page), page)))
		e.Segs = append(e.Segs, seg)
		va = (seg.Va+seg.Mem+page-1)/page*page + uint64(pick(s, 0, 0, 1, s.below(4)))*page
	}
	at := &e.Segs[s.below(len(e.Segs))]
	at.Flags |= fetches
	e.Entry = (at.Va + s.next()%at.Mem) &^ 1
	return e
}

// drawnArgs gives mostly arguments that have room.
func drawnArgs(s *scatter) []string {
	var args []string
	longest := pick(s, 1, 8, 40, 110, 125, 600, 4100)
	for range s.below(pick(s, 1, 3, 10, 33, 35)) {
		text := pattern(s.below(longest), s.below(99))
		if s.below(120) == 0 && len(text) > 0 {
			text[s.below(len(text))] = 0
		}
		args = append(args, string(text))
	}
	return args
}

// drawnFile gives a program's file, seldom with a byte turned, or cut.
func drawnFile(t *testing.T, s *scatter) []byte {
	t.Helper()
	file := fileOf(t, drawnProgram(s))
	switch s.below(12) {
	case 0:
		file[s.below(64)] ^= byte(1 << s.below(8))
	case 1:
		return file[:s.below(len(file))]
	}
	return file
}

// drawnFrame gives mostly a frame that is held and no space's.
func (w *world) drawnFrame(s *scatter, held []uint64) uint64 {
	if s.below(15) == 0 {
		return pick(s, 0, 1, first+page*uint64(s.below(100)), held[0]+8, s.next())
	}
	return pick(s, held...)
}

func TestDrawn(t *testing.T) {
	s := scatter(14)
	outcomes := map[api.Errno]int{}
	for range 120 {
		w := newWorld(t, 24+s.below(90))
		held := []uint64{first}
		for range 4 {
			held = append(held, w.frame())
		}
		for range 12 {
			if len(w.all) > 0 && s.below(3) == 0 {
				w.free(pick(&s, w.all...))
			}
			_, errno := w.load(drawnFile(t, &s), drawnArgs(&s), w.drawnFrame(&s, held[1:]), w.drawnFrame(&s, held[:1]))
			outcomes[errno]++
		}
		for _, l := range slices.Clone(w.all) {
			w.free(l)
		}
		if w.r.Count() != w.r.Frames()-len(held) {
			t.Fatalf("%d of %d are free again", w.r.Count(), w.r.Frames())
		}
	}
	for _, errno := range []api.Errno{api.OK, api.ErrExecFile, api.ErrExecArgs, api.ErrExecArg, api.ErrExecStack, api.ErrExecRoom, api.ErrSpaceFrame} {
		if outcomes[errno] < 20 {
			t.Errorf("%d came %d times", errno, outcomes[errno])
		}
	}
}
