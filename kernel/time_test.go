package kernel_test

// P16.3 and P16.10: DOC.md's Time, case by case, with what is to come reckoned by hand.

import (
	"testing"

	"hartix/api"
)

// until steps to step k.
func (w *world) until(k int) {
	w.t.Helper()
	for w.m.At() < k {
		w.steps(1)
	}
	w.want("At", w.m.At(), k)
}

// fork lets the child go on at a label.
func fork(child string) string { return sys(api.SysFork) + "beqz a0, " + child + "\n" }

// waitAndTell waits for a child and exits with its status.
const waitAndTell = "la a0, status\nli a7, 3\necall\nla a1, status\nlw a0, 0(a1)\nli a7, 2\necall\n.bss\nstatus: .zero 4\n"

// wrongs are texts whose last instruction traps, and how many instructions they do.
func wrongs() map[string]int {
	return map[string]int{
		".word 0":                        1,
		"ebreak":                         1,
		"wfi":                            1,
		"sret":                           1,
		"mret":                           1,
		"csrrs a0, 0xc01, zero":          1,
		"ld a0, 1(zero)":                 1,
		"sd a0, 1(zero)":                 1,
		"sd a0, 0(zero)":                 1, // the program's own page, which may not be written
		"lui t0, 256\nld a0, 0(t0)":      2,
		"lui t0, 256\nsd a0, 0(t0)":      2,
		"lui t0, 256\njr t0":             3,
		"li t0, 2\njr t0":                2,
		"jr sp":                          2, // the stack may not be fetched
		"lui t0, 1\nlui t1, 1\nli a7, 2": 4, // the end of the code: 0 is no word
	}
}

func TestWrongsEndTheFirst(t *testing.T) {
	for text, n := range wrongs() {
		t.Run(text, func(t *testing.T) {
			runs(t, script(t, text), onExit(-1, n-1), "", count(1, n))
		})
	}
}

// TestWrongsEndOneAlone lets a child do wrong: its parent is told -1.
func TestWrongsEndOneAlone(t *testing.T) {
	for text, n := range wrongs() {
		if n == 4 {
			continue
		}
		t.Run(text, func(t *testing.T) {
			s := script(t, fork("child")+"j on\nchild: "+text+"\non: "+waitAndTell)
			// The parent: 3 for the fork, j, la (2), li, ecall; then the child's beqz and its own n; then la (2), lw, li, ecall.
			runs(t, s, onExit(-1, 8+1+n+4), "", count(1, 13), count(2, 1+n))
		})
	}
}

func TestKilledByItself(t *testing.T) {
	runs(t, script(t, sys(api.SysKill, "1")+"here: j here"), onExit(-1, 2), "", count(1, 3))
	child := "child: " + sys(api.SysKill, "2") + "here: j here\n"
	runs(t, script(t, fork("child")+"j on\n"+child+"on: "+waitAndTell), onExit(-1, 8+4+4), "", count(1, 13), count(2, 4))
}

// TestKilledAsleep kills a child that sleeps: it ends as soon as it is picked, without an instruction.
func TestKilledAsleep(t *testing.T) {
	s := script(t, fork("child")+spin("a", 8)+sys(api.SysKill, "2")+waitAndTell+".text\nchild: "+sys(api.SysSleep, "99")+"here: j here")
	s.Ticks = []int{10}
	w := begin(t, s)
	w.until(14) // the child: beqz, li, li, ecall
	w.isOn(-1, 14)
	w.until(15)
	w.isOn(0, 15)
	// The spin's 17 instructions are steps 3 to 9 and 14 to 23, the kill's 24 to 26.
	w.until(27)
	child := w.model.at(1)
	w.want("killed", []any{child.Killed, child.State, child.InCall}, []any{true, api.ProcRun, true})
	w.until(30)
	w.want("the killed one has had no turn yet", w.model.at(1).State, api.ProcRun)
	w.until(31)
	w.isOn(-1, 31)
	w.until(32)
	w.isOn(0, 32)
	w.want("the end", w.toEnd(), onExit(-1, 35))
	runs(t, s, onExit(-1, 35), "", count(1, 32), count(2, 4))
}

// TestKilledAheadOfItsFirstTurn kills a child that has done nothing.
func TestKilledAheadOfItsFirstTurn(t *testing.T) {
	s := script(t, fork("child")+sys(api.SysKill, "2")+waitAndTell+".text\nchild: j child")
	runs(t, s, onExit(-1, 14), "", count(1, 15))
}

// TestTheFirstKilled ends the run where the first process is picked; nobody behind it does anything.
func TestTheFirstKilled(t *testing.T) {
	s := script(t, fork("other")+fork("killer")+"here: j here\nother: j other\nkiller: "+sys(api.SysKill, "1")+"here2: j here2")
	s.Ticks = []int{10, 20, 30}
	w := begin(t, s)
	w.until(11)
	w.isOn(1, 11)
	w.until(21)
	w.isOn(2, 21)
	w.until(30)
	w.want("killed", []any{w.model.at(0).Killed, w.model.at(0).State}, []any{true, api.ProcRun})
	w.isOn(2, 30)
	halt, over := w.step()
	w.want("the end", []any{halt, over}, []any{onExit(-1, 30), true})
	w.isOn(-1, 30)
	runs(t, s, onExit(-1, 30), "", count(1, 10), count(2, 10), count(3, 10))
}

// TestTheFirstKilledInACall kills the first process while it sleeps.
func TestTheFirstKilledInACall(t *testing.T) {
	s := script(t, fork("killer")+sys(api.SysWait, "0")+exit(1)+"killer: "+sys(api.SysKill, "1")+exit(2))
	// 3 + 3 of the first; the killer: 1 + 3 + 3, the last of which is step 12.
	runs(t, s, onExit(-1, 13), "", count(1, 6), count(2, 7))
}

func TestTheFirstExitsWhileOthersRun(t *testing.T) {
	s := script(t, fork("child")+exit(9)+"child: j child")
	runs(t, s, onExit(9, 5), "", count(1, 6))
	s.Ticks = []int{4, 45}
	runs(t, s, onExit(9, 46), "", count(1, 6), count(2, 41))
}

// TestTurns lets three go round: the one behind the last that was picked is next.
func TestTurns(t *testing.T) {
	s := script(t, fork("here")+fork("here")+"here: j here")
	s.Ticks = []int{0, 1, 8, 10, 11, 12, 20, 30}
	w := begin(t, s)
	for _, c := range []struct{ k, slot int }{{1, 0}, {2, 0}, {8, 0}, {9, 1}, {10, 1}, {11, 2}, {12, 0}, {13, 1}, {20, 1}, {21, 2}, {30, 2}, {31, 0}, {299, 0}} {
		w.until(c.k)
		w.isOn(c.slot, c.k)
	}
	runs(t, s, onBudget(300), "", count(1, 8+1+270), count(2, 2+8), count(3, 1+10))
}

// TestNobodyLeavesByItself has no ticks: the child has its first turn when its parent sleeps.
func TestNobodyLeavesByItself(t *testing.T) {
	s := script(t, fork("child")+spin("a", 100)+sys(api.SysWait, "0")+exit(4)+"child: "+spin("b", 10)+exit(3))
	w := begin(t, s)
	for w.m.At() < 3+201+3 {
		w.isOn(0, w.m.At())
		w.steps(1)
	}
	w.isOn(-1, 207)
	for range 1 + 21 + 2 {
		w.steps(1)
		w.isOn(1, w.m.At())
	}
	w.steps(1)
	w.isOn(-1, 207+25)
	w.steps(1)
	w.isOn(0, 207+26)
	w.want("the end", w.toEnd(), onExit(4, 207+25+2))
}

// TestAnEndIsATurn kills one (slot 2) whose end wakes another (slot 1): whose turn it is, is reckoned from the slot that ended, though its process had no instruction.
func TestAnEndIsATurn(t *testing.T) {
	s := script(t, fork("parent")+spin("a", 10)+fork("other")+sys(api.SysKill, "3")+"here: j here\n"+
		"parent: "+fork("child")+sys(api.SysWait, "0")+"other: j other\nchild: j child")
	s.Ticks = []int{10, 25, 50, 60, 70}
	w := begin(t, s)
	w.until(17)
	w.isOn(-1, 17)
	w.until(18)
	w.isOn(2, 18)
	w.until(50)
	w.isOn(0, 50)
	w.want("asleep, killed", []any{w.model.at(1).State, w.model.at(2).Killed, w.model.at(2).State}, []any{api.ProcSleep, true, api.ProcRun})
	w.until(51)
	w.isOn(3, 51)
	w.want("woken, ended", []any{w.model.at(1).State, w.model.at(2).State}, []any{api.ProcRun, api.ProcZombie})
	w.until(61)
	w.isOn(0, 61)
	w.until(71)
	w.isOn(1, 71)
	w.want("waited for", []any{w.model.at(2).Pid, w.model.at(1).Regs.X[10]}, []any{0, uint64(3)})
}

// TestAsleepAgain types one line for two readers: the second goes on, sleeps again, and the next one is picked ahead of the same step.
func TestAsleepAgain(t *testing.T) {
	read := "li a0, 0\nla a1, line\nli a2, 9\nli a7, 5\necall\n"
	s := script(t, fork("reader")+fork("reader")+"here: j here\nreader: "+read+"here2: j here2\n.bss\nline: .zero 9")
	s.Ticks = []int{10, 40, 50, 60}
	s.Inputs = []api.Input{{At: 40, Data: []byte("hi\n")}}
	w := begin(t, s)
	// Each reader: beqz, li, la (2), li, li, ecall.
	w.until(10 + 7 + 7)
	w.isOn(-1, 24)
	w.want("asleep", []any{w.model.at(1).State, w.model.at(2).State}, []any{api.ProcSleep, api.ProcSleep})
	w.until(40)
	w.isOn(0, 40)
	w.until(41)
	w.isOn(1, 41)
	w.want("both woken", []any{w.model.at(1).State, w.model.at(1).Regs.X[10], w.model.at(2).State}, []any{api.ProcRun, uint64(3), api.ProcRun})
	w.until(51)
	w.isOn(0, 51)
	w.want("asleep again", []any{w.model.at(2).State, w.model.at(2).InCall}, []any{api.ProcSleep, true})
	w.until(61)
	w.isOn(1, 61)
}

// TestInputsInOrder types by several inputs, at one step and at more.
func TestInputsInOrder(t *testing.T) {
	read := "li a0, 0\nla a1, line\nli a2, 20\nli a7, 5\necall\n"
	s := script(t, read+"li a7, 2\necall\n.bss\nline: .zero 20")
	s.Inputs = []api.Input{{At: 0, Data: []byte("ab")}, {At: 0, Data: []byte("c")}, {At: 3}, {At: 3, Data: []byte("d\x08")}, {At: 50, Data: []byte("e\rf")}}
	runs(t, s, onExit(5, 51), "abcd\b \be\nf", count(1, 8))
}

// TestTicksAreCounted asks for the count of ticks: that of a step has come ahead of it.
func TestTicksAreCounted(t *testing.T) {
	for _, c := range []struct {
		ticks []int
		count int32
	}{{nil, 0}, {[]int{0}, 1}, {[]int{1}, 1}, {[]int{2}, 0}, {[]int{0, 1, 2, 3}, 2}} {
		s := script(t, sys(api.SysUptime)+"li a7, 2\necall")
		s.Ticks = c.ticks
		runs(t, s, onExit(c.count, 3), "", count(1, 4))
	}
}

// TestTheBudgetIsFirst has an input and a tick at the budget's step, which do not come any more.
func TestTheBudgetIsFirst(t *testing.T) {
	s := script(t, "here: j here")
	s.Budget = 10
	s.Ticks, s.Inputs = []int{9, 10, 11}, []api.Input{{At: 9, Data: []byte("x")}, {At: 10, Data: []byte("y")}}
	w := begin(t, s)
	w.want("the end", w.toEnd(), onBudget(10))
	w.want("ticks", w.m.Os().Look().Ticks, uint64(1))
	runs(t, s, onBudget(10), "x", count(1, 10))
}

// TestIdle has what comes while nobody can run, and what comes never.
func TestIdle(t *testing.T) {
	asleep := sys(api.SysSleep, "3") + five
	for name, c := range map[string]struct {
		text   string
		ticks  []int
		inputs []api.Input
		halt   api.Halt
		output string
		steps  int
	}{
		"nothing comes":           {asleep, nil, nil, onIdle(3), "", 3},
		"all came already":        {asleep, []int{0, 1, 2}, inputsAt(0, 1, 2), onIdle(3), "", 3},
		"at the budget":           {asleep, []int{100}, inputsAt(100), onIdle(3), "", 3},
		"above the budget":        {asleep, []int{101, 1 << 40}, inputsAt(1 << 40), onIdle(3), "", 3},
		"at once":                 {asleep, []int{3, 4, 5}, nil, onExit(5, 7), "", 6},
		"at the last step":        {asleep, []int{97, 98, 99}, nil, onBudget(100), "", 4},
		"too few ticks":           {asleep, []int{97, 99}, nil, onIdle(99), "", 3},
		"an input":                {asleep, nil, []api.Input{{At: 50, Data: []byte("x")}}, onIdle(50), "x", 3},
		"an input without a byte": {asleep, nil, inputsAt(50, 60), onIdle(60), "", 3},
		"inputs and ticks":        {asleep, []int{10, 30, 50}, []api.Input{{At: 20, Data: []byte("a")}, {At: 30, Data: []byte("b")}, {At: 51, Data: []byte("c")}}, onExit(5, 52), "abc", 6},
	} {
		t.Run(name, func(t *testing.T) {
			s := script(t, c.text)
			s.Budget, s.Ticks, s.Inputs = 100, c.ticks, c.inputs
			runs(t, s, c.halt, c.output, count(1, c.steps))
		})
	}
}

// TestAsleepAtTheLastStep sleeps in step 100: where that is the budget's last, the budget is ahead of idleness.
func TestAsleepAtTheLastStep(t *testing.T) {
	s := script(t, "nop\n"+spin("a", 48)+sys(api.SysSleep, "3"))
	s.Budget = 100
	runs(t, s, onBudget(100), "", count(1, 100))
	s.Budget = 101
	runs(t, s, onBudget(101), "", count(1, 101))
	s.Budget = 102
	runs(t, s, onIdle(101), "", count(1, 101))
}

// TestOneStepGoesOver counts the Steps: those between go by in one.
func TestOneStepGoesOver(t *testing.T) {
	s := script(t, sys(api.SysSleep, "3")+"here: j here")
	s.Ticks = []int{50, 100, 150}
	s.Inputs = inputsAt(60, 70, 120)
	w := begin(t, s)
	w.steps(3)
	w.isOn(-1, 3)
	w.steps(1)
	w.isOn(0, 151)
	w.steps(149)
	w.want("the end", w.toEnd(), onBudget(300))
}

// TestAWoken process goes on ahead of the step of the tick that woke it, and not by itself where another is on the hart.
func TestAWoken(t *testing.T) {
	s := script(t, fork("child")+sys(api.SysSleep, "1")+"here: j here\nchild: j child")
	s.Ticks = []int{20, 21}
	w := begin(t, s)
	w.until(6)
	w.isOn(-1, 6)
	w.until(20)
	w.isOn(1, 20)
	w.until(21)
	w.isOn(0, 21)
	w.until(22)
	w.isOn(1, 22)
	w.toEnd()
}
