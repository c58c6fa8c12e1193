package proc_test

// Rows of drawn calls, each held against what the chapter says.

import (
	"fmt"
	"math"
	"testing"

	"hartix/api"
)

// drawnSlot gives a slot that has a process; seldom another number.
func (w *world) drawnSlot(s *scatter) int {
	if len(w.m.all) == 0 || s.below(20) == 0 {
		return pick(s, -1, 64, math.MinInt, math.MaxInt, s.below(places))
	}
	return pick(s, w.m.all...).slot
}

func drawnChan(s *scatter) api.Chan {
	if s.below(15) == 0 {
		return pick(s, api.Chan{}, api.Chan{Kind: 6}, api.Chan{Kind: -1}, api.Chan{Kind: api.ChanTime, N: -1}, api.Chan{N: 1})
	}
	return api.Chan{Kind: 1 + s.below(5), N: s.below(2)}
}

// turn makes one drawn call, and tells how it ended. adds: how many of a hundred are Add.
func (w *world) turn(s *scatter, adds int) string {
	if s.below(100) < adds {
		_, _, errno := w.add(w.drawnSlot(s))
		return fmt.Sprintf("Add %d", errno)
	}
	switch s.below(12) {
	case 0, 1, 2:
		return fmt.Sprintf("Sleep %d", w.sleep(w.drawnSlot(s), drawnChan(s)))
	case 3, 4:
		return fmt.Sprintf("Wake %v", w.wake(drawnChan(s)) > 0)
	case 5:
		return fmt.Sprintf("WakeOne %d", w.wakeOne(w.drawnSlot(s)))
	case 6:
		return fmt.Sprintf("Kill %d", w.kill(w.drawnPid(s)))
	case 7, 8:
		slot := w.drawnSlot(s)
		if slot == 0 && s.below(10) > 0 {
			slot = 1
		}
		some, errno := w.end(slot, int32(s.next()))
		return fmt.Sprintf("End %v %d", some, errno)
	case 9, 10:
		slot := w.drawnSlot(s)
		if zombie, any := w.p.Zombie(slot); any && zombie >= 0 {
			slot = zombie
		}
		return fmt.Sprintf("Free %d", w.free(slot))
	}
	w.renew()
	return "From"
}

func (w *world) drawnPid(s *scatter) int {
	if len(w.m.all) == 0 || s.below(10) == 0 {
		return pick(s, 0, -1, w.m.given, w.m.given+1, math.MaxInt, s.below(90))
	}
	return pick(s, w.m.all...).pid
}

func TestDrawnCalls(t *testing.T) {
	s := scatter(9)
	seen := map[string]int{}
	for range 80 {
		w := begin(t)
		if s.below(4) == 0 {
			w = from(t, pick(&s, alone(lastPid-20), alone(lastPid), mixed(), ended()))
		}
		adds := pick(&s, 10, 25, 60)
		for range 200 {
			seen[w.turn(&s, adds)]++
		}
	}
	for _, outcome := range []string{
		"Add 0", told1("Add", api.ErrProcParent), told1("Add", api.ErrProcPids), told1("Add", api.ErrProcFull),
		"Sleep 0", told1("Sleep", api.ErrProcSlot), told1("Sleep", api.ErrProcState), told1("Sleep", api.ErrProcChan),
		"Wake true", "Wake false", "WakeOne 0", told1("WakeOne", api.ErrProcSlot), told1("WakeOne", api.ErrProcState),
		"Kill 0", told1("Kill", api.ErrProcPid),
		"End true 0", "End false 0", told1("End false", api.ErrProcSlot), told1("End false", api.ErrProcState),
		"Free 0", told1("Free", api.ErrProcSlot), told1("Free", api.ErrProcState), "From",
	} {
		if seen[outcome] < 10 {
			t.Errorf("%q came %d times", outcome, seen[outcome])
		}
	}
	if t.Failed() {
		t.Log(seen)
	}
}

func told1(call string, errno api.Errno) string { return fmt.Sprintf("%s %d", call, errno) }
