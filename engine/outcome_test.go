package engine_test

// W11: one script, one outcome.

import (
	"fmt"
	"slices"
	"strings"
	"testing"

	"hartix/api"
	"hartix/census"
	"hartix/engine"
	"hartix/kernel"
)

func TestOneOutcome(t *testing.T) {
	s := scatter(11000)
	var texts, reports []string
	for range 40 {
		texts = append(texts, drawnRun(&s))
		reports = append(reports, engine.Tell(texts[len(texts)-1]))
	}
	// Again, the other way round, and side by side.
	told := make([]string, len(texts))
	t.Run("side by side", func(t *testing.T) {
		for k := len(texts) - 1; k >= 0; k-- {
			t.Run(fmt.Sprint(k), func(t *testing.T) {
				t.Parallel()
				told[k] = engine.Tell(strings.Clone(texts[k]))
			})
		}
	})
	for k := range texts {
		if told[k] != reports[k] {
			t.Errorf("%q, and %q, of:\n%s", told[k], reports[k], texts[k])
		}
	}
}

// What comes of a smaller budget is the beginning of what comes of a greater one: the machines are alike, step by step, as long as the one goes on.
func TestSmallerBudgets(t *testing.T) {
	inParts(t, 8, func(t *testing.T, part int, v variety) {
		s := scatter(11100 + part)
		for range 12 {
			text := drawnRun(&s)
			a, b := s.below(400), s.below(400)
			less, more := boot(t, withBudget(text, min(a, b))), boot(t, withBudget(text, max(a, b)))
			if less == nil {
				continue
			}
			for {
				if !census.Alike(less.Os().Look(), more.Os().Look()) || less.At() != more.At() || string(less.Output()) != string(more.Output()) {
					t.Fatalf("budgets of %d and %d part at steps %d and %d, of:\n%s", a, b, less.At(), more.At(), text)
				}
				halt, over := less.Step()
				if over {
					beginning(t, halt, less, more)
					break
				}
				more.Step()
			}
		}
	})
}

// beginning asks that the run of the greater budget, which stands where the other has ended, has come no further than that, or goes on.
func beginning(t *testing.T, halt api.Halt, less, more *kernel.Machine) {
	t.Helper()
	before := string(less.Output())
	again, over := more.Step()
	if halt.Code == api.HaltExit && (!over || again != halt) {
		t.Fatalf("%+v, and %+v, %v", halt, again, over)
	}
	if !strings.HasPrefix(string(more.Output()), before) || more.At() < less.At() {
		t.Fatalf("%q at %d is no beginning of %q at %d", before, less.At(), more.Output(), more.At())
	}
}

// A report's counts go up with the budget.
func TestCountsOfBudgets(t *testing.T) {
	s := scatter(11200)
	for range 15 {
		text := drawnRun(&s)
		sums := func(budget int) (int, map[string]int) {
			all, counts := 0, map[string]int{}
			for _, line := range strings.Split(engine.Tell(withBudget(text, budget)), "\n") {
				var pid, n int
				if _, err := fmt.Sscanf(line, "pid %d steps %d", &pid, &n); err == nil {
					all += n
					counts[fmt.Sprint(pid)] = n
				}
			}
			return all, counts
		}
		last, before := sums(0)
		for budget := 1; budget < 200; budget += 1 + s.below(20) {
			now, counts := sums(budget)
			for pid, n := range before {
				if counts[pid] < n {
					t.Fatalf("pid %s has done %d steps of %d, and %d before", pid, counts[pid], budget, n)
				}
			}
			if now < last || now > budget {
				t.Fatalf("%d steps of %d, behind %d", now, budget, last)
			}
			last, before = now, counts
		}
	}
}

// mayTick tells whether a tick more ahead of the step that comes turns nothing: no input comes, somebody is on the hart, nobody else can run, and nobody sleeps for a time.
func mayTick(m *kernel.Machine, script api.Script) bool {
	_, on := m.On()
	if !on || isEvent(script, m.At()) {
		return false
	}
	can := 0
	for _, p := range m.Os().Look().Procs {
		if p.State == api.ProcRun {
			can++
		}
		if p.Chan.Kind == api.ChanTime {
			return false
		}
	}
	return can == 1
}

// withTick gives a script with a tick more.
func withTick(script api.Script, at int) api.Script {
	k, _ := slices.BinarySearch(script.Ticks, at)
	script.Ticks = slices.Insert(slices.Clone(script.Ticks), k, at)
	return script
}

// same runs two scripts, of which one has a tick more, side by side: nothing parts but the count of ticks.
func same(t *testing.T, one, other api.Script, at int) {
	t.Helper()
	a, err := kernel.Boot(one)
	if err != nil {
		t.Fatal(err)
	}
	b, err := kernel.Boot(other)
	if err != nil {
		t.Fatal(err)
	}
	for {
		haltA, overA := a.Step()
		haltB, overB := b.Step()
		look, otherLook := a.Os().Look(), b.Os().Look()
		if a.At() > at && otherLook.Ticks != look.Ticks+1 {
			t.Fatalf("%d ticks, and %d", look.Ticks, otherLook.Ticks)
		}
		otherLook.Ticks = look.Ticks
		if haltA != haltB || overA != overB || a.At() != b.At() || !census.Alike(look, otherLook) || string(a.Output()) != string(b.Output()) {
			t.Fatalf("a tick more at %d turns something at %d: %+v, %v, and %+v, %v", at, a.At(), haltA, overA, haltB, overB)
		}
		if overA {
			return
		}
	}
}

func TestOneTickMore(t *testing.T) {
	v := inParts(t, 8, func(t *testing.T, part int, v variety) {
		s := scatter(11300 + part)
		for range 8 {
			text := drawnRunOf(&s, drawing{timeless: true})
			script, err := engine.Parse(text)
			if err != nil {
				t.Fatal(err)
			}
			var places []int
			m := boot(t, text)
			for over := m == nil; !over; _, over = m.Step() {
				if mayTick(m, script) && m.At() < script.Budget {
					places = append(places, m.At())
				}
			}
			for range min(3, len(places)) {
				at := pick(&s, places...)
				other := withTick(script, at)
				same(t, script, other, at)
				v["ticks"]++
				printed, err := engine.Print(other)
				if err != nil {
					t.Fatal(err)
				}
				if got, want := engine.Tell(printed), engine.Tell(text); got != want {
					t.Fatalf("a tick more at %d: %q, want %q", at, got, want)
				}
			}
		}
	})
	v.atLeast(t, map[string]int{"ticks": 60})
}
