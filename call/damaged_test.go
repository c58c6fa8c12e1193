package call_test

// Of a system into whose memory somebody else has written, or of which he has freed frames, nothing is promised but that its calls end (and so that they do not panic).

import (
	"testing"

	"hartix/api"
)

// exercise makes every call, in all slots, with numbers that may mean something.
func exercise(w *world, s *scatter) {
	for range 200 {
		slot := s.below(6) - 1
		regs := api.Regs{}
		for i := range regs.X {
			regs.X[i] = pick(s, uint64(s.below(20)), stack+uint64(s.below(page)), uint64(s.below(8))*page, s.next())
		}
		regs.X[17] = uint64(s.below(23))
		w.o.SetRegs(slot, regs)
		w.o.Call(slot)
		w.o.GoOn(slot)
		w.o.Tick()
		w.o.Type(byte(s.next()))
		w.o.Type('\n')
		w.o.Regs(slot)
		w.o.Root(slot)
		w.o.Doing(slot)
		if last, any := w.o.Pick(slot); any && s.below(20) == 0 {
			w.o.End(last, 1)
		}
	}
	w.o.Look()
	w.o.Output()
	w.o.Ended()
}

func TestFramesThatOthersFreed(t *testing.T) {
	s := scatter(6)
	for round := range 30 {
		w := busy(t)
		for _, held := range w.r.Image().Held {
			if round == 0 || s.below(round) == 0 {
				w.r.Free(held.Pa)
			}
		}
		exercise(w, &s)
	}
}

func TestFramesThatOthersWroteInto(t *testing.T) {
	s := scatter(7)
	for round := range 30 {
		w := busy(t)
		for _, held := range w.r.Image().Held {
			for at := uint64(0); at < page && s.below(round+1) < 2; at += 8 {
				w.r.Store(held.Pa+at, 8, pick(&s, 0, minus1, s.next(), uint64(s.below(256))<<10|uint64(s.below(256))))
			}
		}
		exercise(w, &s)
	}
}
