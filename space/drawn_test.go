package space_test

// Rows of calls on several spaces of one memory, drawn, each held against what the chapter says.

import (
	"math"
	"testing"

	"hartix/api"
)

// drawnSize gives a size near one that there is, near a border, or far off.
func drawnSize(s *scatter, size uint64) uint64 {
	switch s.below(10) {
	case 0:
		return size
	case 1:
		return size + uint64(s.below(40)) - 20
	case 2:
		return pick(s, uint64(0), 1, userTop-1, userTop, userTop+1, 1<<63, math.MaxUint64, 4096*page, 4096*page+1)
	case 3, 4:
		return uint64(s.below(9))*page + uint64(s.below(3)) - 1
	case 5:
		return size + uint64(s.below(2*page))
	}
	return uint64(s.below(8 * page))
}

// drawnAddress gives an address of a page or near one; seldom one far off.
func drawnAddress(s *scatter, pages int) uint64 {
	switch s.below(12) {
	case 0:
		return s.next()
	case 1:
		return pick(s, uint64(userTop), api.TrapFrame, api.Tramp, api.MaxVA-1, api.MaxVA, 1<<63, math.MaxUint64, math.MaxUint64-page)
	case 2, 3, 4, 5:
		return uint64(s.below(pages+2))*page + uint64(s.below(9)) - 4
	}
	return uint64(s.below((pages + 1) * page))
}

func drawnLength(s *scatter) int {
	switch s.below(12) {
	case 0:
		return pick(s, -1, math.MinInt, math.MaxInt, math.MaxInt32)
	case 1, 2, 3:
		return s.below(3*page + 1)
	}
	return s.below(12)
}

func drawnBytes(s *scatter) []byte {
	n := drawnLength(s)
	if n < 0 || n > 3*page {
		return nil
	}
	b := make([]byte, n)
	for k := range b {
		b[k] = byte(s.next()) & pick(s, byte(0xFF), 0x03)
	}
	return b
}

func drawnPerm(s *scatter) uint64 {
	if s.below(8) == 0 {
		return s.next() & pick(s, uint64(15), 31, 255, 1<<63|14)
	}
	return pick(s, uint64(mayRead), mayFetch, mayRead|mayFetch, rw, rw, rw, rw|mayFetch)
}

// drawnFrame gives the address of a frame that may be a trapframe, or may not.
func (w *world) drawnFrame(s *scatter) uint64 {
	switch s.below(6) {
	case 0:
		return first + uint64(s.below(w.r.Frames()+2))*page - page
	case 1:
		return first + uint64(s.below(w.r.Frames()*page))
	}
	for pa := range w.others {
		if pa != first && !w.isNamed(pa) {
			return w.lowest()
		}
	}
	if w.r.Count() == 0 {
		return first
	}
	return w.frame()
}

// lowest gives the lowest frame that is nobody's, so that the row of calls is the same each time.
func (w *world) lowest() uint64 {
	low := uint64(math.MaxUint64)
	for pa := range w.others {
		if pa != first && !w.isNamed(pa) {
			low = min(low, pa)
		}
	}
	return low
}

// change makes one drawn call that changes something, and tells how it ended.
func (w *world) change(s *scatter) (string, api.Errno) {
	if len(w.pairs) == 0 || s.below(14) == 0 {
		_, errno := w.make(w.drawnFrame(s), pick(s, uint64(first), first, first, w.drawnFrame(s)))
		return "New", errno
	}
	p := pick(s, w.pairs...)
	switch s.below(12) {
	case 0, 1, 2:
		return "Grow", w.grow(p, drawnSize(s, p.m.size), drawnPerm(s))
	case 3, 4:
		return "Shrink", w.shrink(p, drawnSize(s, p.m.size))
	case 5:
		return "Guard", w.guard(p, s.below(len(p.m.pages)+2)-1)
	case 6:
		_, errno := w.copy(p, w.drawnFrame(s))
		return "Copy", errno
	case 7:
		if s.below(3) == 0 {
			w.free(p)
			return "Free", api.OK
		}
		w.leave(min(w.r.Count(), s.below(30)))
		return "leave", api.OK
	case 8:
		w.giveSome(s)
		return "give", api.OK
	case 9, 10:
		return "Out", w.write(s, p, w.out)
	}
	return "Poke", w.write(s, p, w.poke)
}

// write makes a drawn writing, and reads what stands there then.
func (w *world) write(s *scatter, p *pair, by func(*pair, uint64, []byte) bool) api.Errno {
	va, b := drawnAddress(s, len(p.m.pages)), drawnBytes(s)
	ok := by(p, va, b)
	from := va + uint64(s.below(3)) - 1
	w.in(p, from, len(b)+1)
	if text, _ := w.str(p, from, len(b)+s.below(3)); text != "" {
		w.texts++
	}
	if ok {
		return api.OK
	}
	return api.ErrArg
}

// giveSome gives some frames that are nobody's back.
func (w *world) giveSome(s *scatter) {
	for range s.below(12) {
		if pa := w.lowest(); pa != math.MaxUint64 {
			w.giveBack(pa)
		}
	}
	w.check("frames given back")
}

// look makes drawn calls that only look.
func (w *world) look(s *scatter, seen map[string]int) {
	for _, p := range w.pairs {
		for range 4 {
			va, n := drawnAddress(s, len(p.m.pages)), drawnLength(s)
			if _, ok := w.in(p, va, n); ok {
				seen["In"]++
			}
			if _, ok := w.str(p, va, n); ok {
				seen["Str"]++
			}
			if w.canOut(p, va, n) {
				seen["CanOut"]++
			}
		}
	}
}

func TestDrawnCalls(t *testing.T) {
	type outcome struct {
		call  string
		errno api.Errno
	}
	s := scatter(1)
	changed, seen := map[outcome]int{}, map[string]int{}
	for range 60 {
		w := newWorld(t, pick(&s, 16, 24, 40, 64))
		for range 80 {
			call, errno := w.change(&s)
			changed[outcome{call, errno}]++
			if s.below(4) == 0 {
				w.look(&s, seen)
			}
		}
		seen["a text"] += w.texts
	}
	for _, o := range []outcome{
		{"New", api.OK}, {"New", api.ErrSpaceFrame}, {"New", api.ErrSpaceRoom},
		{"Grow", api.OK}, {"Grow", api.ErrSpaceSize}, {"Grow", api.ErrSpacePerm}, {"Grow", api.ErrSpaceRoom},
		{"Shrink", api.OK}, {"Shrink", api.ErrSpaceSize}, {"Guard", api.OK}, {"Guard", api.ErrSpacePage},
		{"Copy", api.OK}, {"Copy", api.ErrSpaceFrame}, {"Copy", api.ErrSpaceRoom}, {"Free", api.OK},
		{"Out", api.OK}, {"Out", api.ErrArg}, {"Poke", api.OK}, {"Poke", api.ErrArg},
	} {
		if changed[o] < 20 {
			t.Errorf("%s ended with %d %d times", o.call, o.errno, changed[o])
		}
	}
	for _, call := range []string{"In", "Str", "CanOut", "a text"} {
		if seen[call] < 60 {
			t.Errorf("%s: %d times", call, seen[call])
		}
	}
}
