package pipe_test

// Rows of drawn calls, each held against what the chapter says (P10.6 to P10.9).

import (
	"math"
	"testing"

	"hartix/api"
	"hartix/pipe"
)

func drawnNumber(s *scatter) int {
	return pick(s, 0, 1, 1, 2, s.below(20), s.below(20), s.below(200), s.below(600), 511, 512, 513, s.below(2000))
}

// turn makes one drawn call, and tells which, and how it ended.
func (w *world) turn(s *scatter) (string, int) {
	switch s.below(200) {
	case 0:
		w.doShut(true)
		return "Shut", 0
	case 1:
		w.doShut(false)
		return "Shut", 0
	case 2:
		w.renew()
		return "From", 0
	}
	if s.below(2) == 0 {
		_, how := w.doPut(w.fresh(drawnNumber(s)))
		return "Put", how
	}
	n := drawnNumber(s)
	if s.below(20) == 0 {
		n = pick(s, -1, -n, math.MinInt, math.MaxInt, math.MaxInt32, 1<<32)
	}
	_, how := w.doTake(n)
	return "Take", how
}

// renew goes on with the pipe that its state tells.
func (w *world) renew() {
	p, err := pipe.From(w.p.State())
	if err != nil {
		w.t.Fatal(err)
	}
	w.p = p
	w.check("From")
}

type outcome struct {
	call string
	how  int
}

func TestDrawnCalls(t *testing.T) {
	s := scatter(1)
	seen := map[outcome]int{}
	for range 120 {
		reads := pick(&s, 0, 0, s.below(1<<32), 1<<32-1-s.below(3000))
		w := from(t, drawnBytes(&s), reads, true, true)
		for range 150 {
			call, how := w.turn(&s)
			seen[outcome{call, how}]++
		}
	}
	for _, o := range []outcome{{"Put", api.PipeDone}, {"Put", api.PipeWait}, {"Put", api.PipeBroken}, {"Take", api.PipeDone}, {"Take", api.PipeWait}, {"Shut", 0}, {"From", 0}} {
		if seen[o] < 50 {
			t.Errorf("%s ended with %d %d times", o.call, o.how, seen[o])
		}
	}
}

// drawnBytes gives what is in the pipe at the beginning.
func drawnBytes(s *scatter) []byte { return row(pick(s, 0, 0, 1, s.below(513), 512), byte(s.next())) }
