package kernel_test

// P16.5, P16.7 and P16.8.

import (
	"reflect"
	"strings"
	"testing"

	"hartix/api"
	"hartix/kernel"
)

// TestCountsByPid has two children one behind the other, in the same slot.
func TestCountsByPid(t *testing.T) {
	text := fork("one") + sys(api.SysWait, "0") + fork("two") + sys(api.SysWait, "0") + exit(0) +
		"one: " + exit(1) + "two: nop\nnop\n" + exit(2)
	runs(t, script(t, text), onExit(0, 15+4+6-1), "", count(1, 15), count(2, 4), count(3, 6))
}

// TestWhoDidNothingIsLeftOut has a child that is never on the hart, ahead of one that is.
func TestWhoDidNothingIsLeftOut(t *testing.T) {
	text := fork("here") + sys(api.SysKill, "2") + fork("here") + sys(api.SysSleep, "9") + "here: j here"
	s := script(t, text)
	s.Budget = 20
	runs(t, s, onBudget(20), "", count(1, 12), count(3, 8))
}

// TestExecKeepsTheCount runs another program in the first one's place.
func TestExecKeepsTheCount(t *testing.T) {
	s := script(t, "la a0, path\nla a1, args\nli a7, 7\necall\n.data\npath: .asciz \"/b\"\n.align 3\nargs: .dword path, 0")
	s.Files = append(s.Files, fileOf("/b", program(t, exit(6))))
	runs(t, s, onExit(6, 8), "", count(1, 9))
}

// TestAllSlots forks until no slot is left: the forks that are refused bring nobody.
func TestAllSlots(t *testing.T) {
	text := "li s0, 70\nagain: li a7, 1\necall\nbeqz a0, here\naddi s0, s0, -1\nbnez s0, again\n" + sys(api.SysSleep, "1") + "here: j here"
	s := script(t, text)
	s.Frames, s.Budget = 1024, 1+70*5+3+63*2
	for k := s.Budget - 63*2; k < s.Budget; k += 2 {
		s.Ticks = append(s.Ticks, k)
	}
	steps := []api.PidSteps{count(1, 1+70*5+3)}
	for pid := 2; pid <= 64; pid++ {
		steps = append(steps, count(pid, 2))
	}
	w := begin(t, s)
	w.until(s.Budget)
	w.want("processes", []any{len(w.m.Os().Look().Procs), w.m.Os().Look().NextPid}, []any{64, 65})
	// The first tick wakes the first process, which comes behind all others.
	r, err := kernel.Run(s)
	w.want("Run", []any{r.Halt, err}, []any{onBudget(s.Budget), error(nil)})
	w.want("counts", r.Steps, steps)
}

// TestManyPids forks and waits over and over: each child counts for itself.
func TestManyPids(t *testing.T) {
	text := "again: li a7, 1\necall\nbeqz a0, child\nli a0, 0\nli a7, 3\necall\nj again\nchild: li a7, 2\necall"
	s := script(t, text)
	s.Budget = 10000
	r, err := kernel.Run(s)
	if err != nil || r.Halt != onBudget(10000) {
		t.Fatalf("%+v, %v", r.Halt, err)
	}
	all := 0
	for i, c := range r.Steps {
		if c.Pid != i+1 || i > 0 && i < len(r.Steps)-1 && c.Steps != 3 {
			t.Errorf("the count at %d: %+v", i, c)
		}
		all += c.Steps
	}
	if all != 10000 || len(r.Steps) != 1001 {
		t.Errorf("%d instructions of %d pids", all, len(r.Steps))
	}
}

// TestALongOutput prints what is more than any list has room for at first.
func TestALongOutput(t *testing.T) {
	s := script(t, "again: li a0, 1\nla a1, text\nli a2, 4\nli a7, 16\necall\nj again\n.data\ntext: .ascii \"long\"")
	s.Budget = 7 * 1000
	runs(t, s, onBudget(7000), strings.Repeat("long", 1000), count(1, 7000))
}

// TestOneScriptOneOutcome runs a script again and again.
func TestOneScriptOneOutcome(t *testing.T) {
	s := scatter(11)
	for range 20 {
		script := drawScript(t, &s)
		first, err := kernel.Run(script)
		for range 3 {
			again, err2 := kernel.Run(script)
			if !reflect.DeepEqual(first, again) || (err == nil) != (err2 == nil) {
				t.Fatalf("%+v, %v, then %+v, %v", first, err, again, err2)
			}
		}
	}
}
