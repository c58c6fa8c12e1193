package console_test

// Rows of drawn calls, each held against what the chapter says (P11.6 to P11.8).

import (
	"math"
	"testing"
)

// drawnRow gives bytes that may lie in a console, of all kinds; ends are newlines and ends of input, which no line has.
func drawnRow(s *scatter, n int, ends bool) string {
	b := make([]byte, 0, n)
	for len(b) < n {
		c := pick(s, byte('a'), byte('b'), byte(s.below(256)), 1, 0xFF)
		if ends {
			c = pick(s, c, c, c, c, c, 0x0A, 0x04)
		}
		switch c {
		case 0, 0x08, 0x0D, 0x15, 0x7F:
			continue
		case 0x0A, 0x04:
			if !ends {
				continue
			}
		}
		b = append(b, c)
	}
	return string(b)
}

func drawnKey(s *scatter, often byte) byte {
	return pick(s, 'a', 'b', 'c', 'd', often, often, byte(s.below(256)), pick[byte](s, 0, 4, 8, 10, 13, 21, 127, 255))
}

// turn makes one drawn call, and tells how it ended.
func (w *world) turn(s *scatter, often byte, seldom int) string {
	if s.below(100) == 0 {
		w.renew()
		return "From"
	}
	if s.below(seldom) > 0 {
		n := len(w.c.State().Ready)
		e, ready := w.doType(drawnKey(s, often))
		switch {
		case ready:
			return "finished"
		case e != nil:
			return "echo"
		case n == full:
			return "lost"
		}
		return "nothing"
	}
	n := pick(s, 0, 1, 1, 2, 3, s.below(20), s.below(130), -s.below(9), math.MinInt, math.MaxInt)
	w.doPeek(n)
	b, ok := w.doTake(n)
	switch {
	case !ok:
		return "not ready"
	case n < 1:
		return "no byte asked"
	case b == nil:
		return "end"
	}
	return "bytes"
}

func TestDrawnCalls(t *testing.T) {
	s := scatter(3)
	seen := map[string]int{}
	for range 200 {
		w := from(t, drawnRow(&s, pick(&s, 0, 0, 1, s.below(100), 100), true), drawnRow(&s, pick(&s, 0, 0, 1, s.below(28), 27), false))
		often := pick(&s, byte('e'), 'e', 'e', 8, 4, 10, 21)
		seldom := pick(&s, 2, 5, 20, 100)
		for range 300 {
			seen[w.turn(&s, often, seldom)]++
		}
	}
	for _, o := range []string{"From", "finished", "echo", "lost", "nothing", "not ready", "no byte asked", "end", "bytes"} {
		if seen[o] < 100 {
			t.Errorf("%q came %d times", o, seen[o])
		}
	}
}
