package engine_test

// W6: everybody's turn.

import (
	"fmt"
	"strings"
	"testing"

	"hartix/api"
)

// turns follows who waits for what, since which step.
type turns struct {
	*pair
	every   int
	since   map[string]int
	longest int
}

func (w *turns) waits(what string, is bool) {
	w.t.Helper()
	from, waits := w.since[what]
	switch {
	case !is:
		delete(w.since, what)
	case !waits:
		w.since[what] = w.plain.k
	case w.plain.k > from+slots*w.every:
		w.fail("%s waits since step %d", what, from)
	default:
		w.longest = max(w.longest, w.plain.k-from)
	}
}

// look asks for the bounds ahead of a step. did is the pid whose instruction was done last.
func (w *turns) look(did int, before api.OsLook) {
	w.t.Helper()
	l := w.m.Os().Look()
	for _, p := range l.Procs {
		if p.Pid == did {
			delete(w.since, fmt.Sprint(p.Pid, " to run"))
		}
		if old := procIn(before, p.Slot); old == nil || old.Pid != p.Pid || old.State != p.State || old.InCall != p.InCall || p.Pid == did {
			delete(w.since, fmt.Sprint(p.Pid, " to go on"))
		}
		slot, on := w.m.On()
		runs := p.State == api.ProcRun && !(on && slot == p.Slot)
		w.waits(fmt.Sprint(p.Pid, " to run"), runs && !p.InCall && !p.Killed)
		w.waits(fmt.Sprint(p.Pid, " to go on"), runs && p.InCall && !p.Killed)
		w.waits(fmt.Sprint(p.Pid, " to end"), p.Killed && p.State != api.ProcZombie)
	}
	w.notInVain(l)
}

// notInVain asks that nobody sleeps whose cause has come.
func (w *turns) notInVain(l api.OsLook) {
	w.t.Helper()
	pipes := map[int]api.PipeState{}
	for _, q := range l.Pipes {
		pipes[q.Num] = q.State
	}
	for _, p := range l.Procs {
		q, inVain := pipes[p.Chan.N], false
		switch p.Chan.Kind {
		case api.ChanChild:
			for _, child := range l.Procs {
				inVain = inVain || child.Parent == p.Slot && child.Slot != p.Slot && child.State == api.ProcZombie
			}
		case api.ChanTime:
			inVain = p.Pending.Due <= l.Ticks
		case api.ChanConsole:
			inVain = len(l.Console.Ready) > 0
		case api.ChanRead:
			inVain = len(q.Bytes) > 0 || !q.Writer
		case api.ChanWrite:
			inVain = len(q.Bytes) < pipeSize || !q.Reader
		}
		if inVain || (p.State == api.ProcSleep) != (p.Chan != api.Chan{}) {
			w.fail("slot %d sleeps in vain: %+v", p.Slot, p)
		}
	}
}

// watchTurns plays a text with a tick every so many steps, from a step on, and tells the longest time that somebody has waited since then.
func watchTurns(t *testing.T, text string, from, every int) int {
	t.Helper()
	w := begin(t, fmt.Sprintf("%severy %d %d %d\n", text, from, every, 4000/every))
	if w == nil {
		return 0
	}
	all := &turns{pair: w, every: every, since: map[string]int{}}
	for {
		before := w.m.Os().Look()
		counts := map[int]int{}
		for pid, n := range w.plain.steps {
			counts[pid] = n
		}
		if w.step() {
			return all.longest
		}
		did := 0
		for pid, n := range w.plain.steps {
			if n != counts[pid] {
				did = pid
			}
		}
		if w.plain.k >= from {
			all.look(did, before)
		}
	}
}

// Sixty-four processes that run without end: each has its turn, and the last one waits as long as may be.
func TestTurnsOfMany(t *testing.T) {
	for _, every := range []int{1, 3} {
		t.Run(fmt.Sprint(every), func(t *testing.T) {
			t.Parallel()
			text := fmt.Sprintf("frames 700\nbudget %d\ninit /a\nasm /a\nfork: li a7, 1\necall\nbgtz a0, fork\nspin: addi s0, s0, 1\nj spin\nend\n", 450+140*every)
			longest := watchTurns(t, text, 300, every)
			if longest < 62*every || longest > 64*every {
				t.Errorf("the longest wait had %d steps", longest)
			}
		})
	}
}

// A killed process ends in its turn, whatever it does.
func TestTurnsOfTheKilled(t *testing.T) {
	for _, child := range []string{"spin: j spin", "li a0, 0\nla a1, room\nli a2, 9\nli a7, 5\necall", "li a0, 100\nli a7, 13\necall", "li a0, 0\nli a7, 3\necall\nspin: j spin"} {
		text := "frames 100\nbudget 400\ninit /a\nasm /a\nli a7, 1\necall\nbeqz a0, child\nli t0, 9\nwait: addi t0, t0, -1\nbnez t0, wait\nli a0, 2\nli a7, 6\necall\nli a0, 0\nli a7, 3\necall\nli a7, 2\necall\nchild: " + child + "\nebreak\n.bss\nroom: .zero 9\nend\n"
		watchTurns(t, text, 2, 3)
		if report := checkTell(t, text+"every 2 3 100\n"); !strings.Contains(report, "halt exit 2 at ") {
			t.Errorf("%q: %q", child, report)
		}
	}
}

func TestTurnsDrawn(t *testing.T) {
	inParts(t, 8, func(t *testing.T, part int, v variety) {
		s := scatter(8000 + part)
		for range 8 {
			var b strings.Builder
			for _, line := range strings.SplitAfter(drawnRun(&s), "\n") {
				if !strings.HasPrefix(line, "tick ") {
					b.WriteString(line)
				}
			}
			watchTurns(t, b.String(), s.below(6), 1+s.below(6))
		}
	})
}
