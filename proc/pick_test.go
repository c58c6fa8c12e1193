package proc_test

// P13.4 and P13.13: whose turn it is.

import (
	"math"
	"testing"

	"hartix/api"
)

// among gives a crowd of which just these can run: of the others every second one sleeps, and the rest has ended.
func among(t *testing.T, can ...int) *world {
	t.Helper()
	w := crowd(t)
	s := w.p.State()
	for slot := range s.Slots {
		s.Slots[slot].Parent = 0
		if slot%2 == 0 {
			s.Slots[slot].State, s.Slots[slot].Chan = api.ProcSleep, timeAt(slot)
		} else {
			s.Slots[slot].State = api.ProcZombie
		}
	}
	for _, slot := range can {
		s.Slots[slot].State, s.Slots[slot].Chan = api.ProcRun, api.Chan{}
	}
	return from(t, s)
}

func TestPickNobody(t *testing.T) {
	for _, w := range []*world{begin(t), among(t)} {
		for _, last := range slots() {
			wantPick(t, w.p, last, -1, false)
		}
	}
}

// One that can run is picked whoever was ahead of it, itself too.
func TestPickTheOnly(t *testing.T) {
	for slot := range places {
		w := among(t, slot)
		for _, last := range slots() {
			wantPick(t, w.p, last, slot, true)
		}
	}
}

func TestPickGoesRound(t *testing.T) {
	w := among(t, 0, 5, 6, 63)
	for _, c := range [][2]int{{0, 5}, {1, 5}, {4, 5}, {5, 6}, {6, 63}, {7, 63}, {62, 63}, {63, 0}, {-1, 0}, {64, 0}, {math.MinInt, 0}, {math.MaxInt, 0}} {
		wantPick(t, w.p, c[0], c[1], true)
	}
	w = among(t, 1, 62)
	for _, c := range [][2]int{{0, 1}, {1, 62}, {61, 62}, {62, 1}, {63, 1}, {-1, 1}, {64, 1}, {128, 1}} {
		wantPick(t, w.p, c[0], c[1], true)
	}
	if s := w.p.State(); s != among(t, 1, 62).p.State() {
		t.Error("Pick changes the table")
	}
}

// Killed ones are picked as others are.
func TestPickKilled(t *testing.T) {
	w := among(t)
	w.kill(w.p.Look(8).Pid)
	wantPick(t, w.p, 8, 8, true)
	wantPick(t, w.p, 63, 8, true)
}

// P13.13: whoever can run all the while is picked within 64, whatever the others do in between.
func TestTurns(t *testing.T) {
	s := scatter(3)
	for range 40 {
		w := crowd(t)
		stays := map[int]int{} // how often others were picked since
		for range 1 + s.below(6) {
			stays[s.below(places)] = 0
		}
		last := s.below(places)
		for range 200 {
			at, ok := w.p.Pick(last)
			if !ok {
				t.Fatal("nobody can run")
			}
			for slot := range stays {
				if stays[slot]++; slot == at {
					stays[slot] = 0
				} else if stays[slot] >= 64 {
					t.Fatalf("slot %d waits for %d turns", slot, stays[slot])
				}
			}
			last = at
			w.disturb(&s, stays)
		}
	}
}

// disturb does something with those who may stop running.
func (w *world) disturb(s *scatter, stays map[int]int) {
	slot := s.below(places)
	if _, ok := stays[slot]; ok {
		return
	}
	switch s.below(6) {
	case 0, 1:
		w.p.Sleep(slot, timeAt(slot%3))
	case 2:
		w.p.Wake(timeAt(slot % 3))
	case 3:
		if slot > 0 {
			w.p.End(slot, 1)
		}
	case 4:
		w.p.Free(slot)
	case 5:
		w.p.Add(0)
	}
}

// With all 64 running each is picked once in 64 turns, in their order.
func TestEverybodyOnce(t *testing.T) {
	w := crowd(t)
	for last := range places {
		wantPick(t, w.p, last, (last+1)%64, true)
	}
}
