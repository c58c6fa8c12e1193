package kernel_test

// Drawn scripts: programs that make drawn calls, with drawn ticks and inputs, beside the model.

import (
	"errors"
	"slices"
	"strconv"
	"strings"
	"testing"

	"hartix/api"
	"hartix/kernel"
)

// writer writes a drawn program.
type writer struct {
	s      *scatter
	lines  strings.Builder
	labels int
}

func (w *writer) put(lines ...string) {
	for _, l := range lines {
		w.lines.WriteString(l + "\n")
	}
}

func (w *writer) label() string {
	w.labels++
	return "l" + strconv.Itoa(w.labels)
}

func (w *writer) number(n int) string { return strconv.Itoa(w.s.below(n)) }

// call makes a call whose arguments are set by lines.
func (w *writer) call(number int, lines ...string) {
	w.put(lines...)
	w.put("li a7, "+strconv.Itoa(number), "ecall")
}

// fd gives a line that brings a descriptor into a0: a fixed one, or an end of the last pipe.
func (w *writer) fd() string {
	if w.s.below(3) > 0 {
		return "li a0, " + w.number(6)
	}
	return "la a0, ends\nlw a0, " + pick(w.s, "0", "4") + "(a0)"
}

// many gives how many bytes are read or written: more than a pipe takes, too.
func (w *writer) many() string {
	return "li a2, " + pick(w.s, "0", "1", "3", "9", "100", "300", "600", "1500", "-1")
}

func (w *writer) place() string {
	return pick(w.s, "la a1, bytes", "la a1, bytes", "la a1, bytes", "la a1, path", "li a1, 0", "li a1, -8")
}

// branch puts a block of its own for the child of a fork.
func (w *writer) branch(depth int) {
	parent := w.label()
	w.call(api.SysFork)
	w.put("bnez a0, " + parent)
	w.block(depth-1, 1+w.s.below(5))
	if w.s.below(4) > 0 {
		w.call(api.SysExit, "li a0, "+w.number(100))
	}
	w.put(parent + ":")
}

func (w *writer) loop() {
	label := w.label()
	w.put("li t0, "+strconv.Itoa(1+w.s.below(12)), label+":")
	w.put(pick(w.s, "addi s1, s1, 1", "sd s1, 0(sp)", "ld s1, 0(sp)", "mul s1, s1, t0"))
	w.put("addi t0, t0, -1", "bnez t0, "+label)
}

func (w *writer) wrong() {
	w.put(pick(w.s, "ebreak", ".word 0", "ld a0, 1(zero)", "sd a0, 0(zero)", "li t0, 6\njr t0", "lui t0, 900\njr t0"))
}

func (w *writer) block(depth, n int) {
	for range n {
		w.action(depth)
	}
}

func (w *writer) action(depth int) {
	switch w.s.below(22) {
	case 0, 1, 2:
		if depth > 0 {
			w.branch(depth)
		} else {
			w.call(api.SysFork)
		}
	case 3, 4:
		w.call(api.SysWait, pick(w.s, "li a0, 0", "la a0, bytes", "li a0, 1"))
	case 5, 6:
		w.call(api.SysPipe, "la a0, ends")
	case 7, 8:
		w.call(api.SysRead, w.fd(), w.place(), w.many())
	case 9, 10, 11:
		w.call(api.SysWrite, w.fd(), w.place(), w.many())
	case 12, 13:
		w.call(api.SysKill, "li a0, "+w.number(8))
	case 14, 15:
		w.call(api.SysSleep, "li a0, "+w.number(4))
	case 16:
		w.call(api.SysClose, w.fd())
	case 17:
		w.call(api.SysExec, pick(w.s, "la a0, path", "la a0, other", "li a0, 0"), "la a1, args")
	case 18:
		w.call(pick(w.s, api.SysSbrk, api.SysGetpid, api.SysUptime, api.SysDup, 99), "li a0, "+pick(w.s, "0", "1", "4096", "-5000", "200000"))
	case 19:
		w.call(api.SysOpen, "la a0, "+pick(w.s, "path", "file"), "li a1, "+pick(w.s, "0", "0x202", "0x601"))
	case 20:
		w.loop()
	case 21:
		if w.s.below(6) == 0 {
			w.wrong()
		} else {
			w.loop()
		}
	}
}

func drawProgram(t *testing.T, s *scatter) []byte {
	t.Helper()
	w := &writer{s: s}
	w.put("li s0, "+strconv.Itoa(1+s.below(3)), "begin:")
	w.block(2, 3+s.below(10))
	w.put("addi s0, s0, -1", "bnez s0, begin")
	if s.below(3) > 0 {
		w.call(api.SysExit, "li a0, "+w.number(100))
	} else {
		w.put("end: j end")
	}
	w.put(".data", "path: .asciz \"/b\"", "other: .asciz \"/c\"", "file: .asciz \"f\"", ".align 3", "args: .dword path, other, 0", "bytes: .ascii \"some bytes\"", ".bss", ".zero 1500", ".align 3", "ends: .zero 8")
	return program(t, w.lines.String())
}

func drawScript(t *testing.T, s *scatter) api.Script {
	t.Helper()
	script := api.Script{Frames: pick(s, 24, 40, 64, 100, 200), Init: "/a", Budget: 50 + s.below(400)}
	for _, path := range []string{"/a", "/b", "/c"} {
		script.Files = append(script.Files, fileOf(path, drawProgram(t, s)))
	}
	gap := pick(s, 3, 10, 30, 200)
	for k := s.below(gap); k < 500; k += 1 + s.below(gap) {
		script.Ticks = append(script.Ticks, k)
	}
	gap = pick(s, 10, 50, 500)
	for k := s.below(gap); k < 500; k += s.below(gap) + s.below(2) {
		script.Inputs = append(script.Inputs, api.Input{At: k, Data: []byte(pick(s, "", "x", "line\n", "two\nlines\n", "\x04", "\b", "more "))})
	}
	return script
}

// seen counts what the drawn scripts have come to, lest they all end early.
type seen struct {
	refused, budget, exit, idle, asleep, zombies, gaps, moreThanFour int
}

func (n *seen) add(more seen) {
	n.refused += more.refused
	n.budget += more.budget
	n.exit += more.exit
	n.idle += more.idle
	n.asleep += more.asleep
	n.zombies += more.zombies
	n.gaps += more.gaps
	n.moreThanFour += more.moreThanFour
}

func TestDrawn(t *testing.T) {
	parts := make([]seen, 8)
	t.Run("parts", func(t *testing.T) {
		for i := range parts {
			t.Run(strconv.Itoa(i), func(t *testing.T) {
				t.Parallel()
				playSome(t, scatter(100+i), 40, &parts[i])
			})
		}
	})
	var n seen
	for _, part := range parts {
		n.add(part)
	}
	if n.budget < 50 || n.exit < 100 || n.idle < 50 || n.asleep < 3000 || n.zombies < 3000 || n.gaps < 100 || n.moreThanFour < 20 || n.refused > 50 {
		t.Errorf("drawn too much alike: %+v", n)
	}
}

func playSome(t *testing.T, s scatter, scripts int, n *seen) {
	for range scripts {
		script := drawScript(t, &s)
		if _, err := kernel.Boot(script); err != nil {
			n.refused++
			continue
		}
		playDrawn(t, script, n)
	}
}

// playDrawn steps to the end and holds Run against it (P16.7, P16.8).
func playDrawn(t *testing.T, script api.Script, n *seen) {
	t.Helper()
	w := begin(t, script)
	did := 0
	for {
		before := w.m.At()
		_, over := w.step()
		if over {
			break
		}
		did++
		if w.m.At() <= before || w.m.At() > script.Budget || did > script.Budget {
			t.Fatalf("k from %d to %d, %d steps of %d", before, w.m.At(), did, script.Budget)
		}
		if w.m.At() > before+1 {
			n.gaps++
		}
		w.lookFor(n)
	}
	halt := w.toEnd()
	r, err := kernel.Run(script)
	if err != nil {
		t.Fatal(err)
	}
	w.want("Run", r, w.model.told())
	n.note(r)
	w.want("At the end", []any{w.m.At(), halt.Step <= script.Budget}, []any{halt.Step, true})
}

func (n *seen) note(r api.Report) {
	switch r.Halt.Code {
	case api.HaltBudget:
		n.budget++
	case api.HaltExit:
		n.exit++
	case api.HaltIdle:
		n.idle++
	}
	if len(r.Steps) > 4 {
		n.moreThanFour++
	}
}

func (w *world) lookFor(n *seen) {
	for _, p := range w.m.Os().Look().Procs {
		switch p.State {
		case api.ProcSleep:
			n.asleep++
		case api.ProcZombie:
			n.zombies++
		}
	}
}

// TestDrawnBudgets holds a run against those of smaller budgets: what they print is a beginning of what it prints, and so are their counts.
func TestDrawnBudgets(t *testing.T) {
	s := scatter(2)
	for range 60 {
		script := drawScript(t, &s)
		whole, err := kernel.Run(script)
		if err != nil {
			continue
		}
		for range 10 {
			less := script
			less.Budget = s.below(script.Budget + 1)
			r, err := kernel.Run(less)
			if err != nil {
				t.Fatal(err)
			}
			if !strings.HasPrefix(string(whole.Output), string(r.Output)) {
				t.Fatalf("budget %d: %q, budget %d: %q", less.Budget, r.Output, script.Budget, whole.Output)
			}
			if less.Budget > whole.Halt.Step && whole.Halt.Code == api.HaltExit && r.Halt != whole.Halt {
				t.Fatalf("budget %d: %+v, budget %d: %+v", less.Budget, r.Halt, script.Budget, whole.Halt)
			}
			for _, c := range r.Steps {
				at, there := slices.BinarySearchFunc(whole.Steps, c.Pid, func(c api.PidSteps, pid int) int { return c.Pid - pid })
				if !there || whole.Steps[at].Steps < c.Steps {
					t.Fatalf("budget %d: %v, budget %d: %v", less.Budget, r.Steps, script.Budget, whole.Steps)
				}
			}
		}
	}
}

// TestDrawnBytes runs what is no program, or a program of drawn words.
func TestDrawnBytes(t *testing.T) {
	s := scatter(3)
	ran := 0
	for round := range 300 {
		data := program(t, strings.Repeat("nop\n", 60)+".data\n.zero 60")
		for range 1 + round%150 {
			from := 64 + 2*56 // behind the headers
			if round%10 == 0 {
				from = 0
			}
			data[from+s.below(len(data)-from)] = byte(s.next())
		}
		script := api.Script{Frames: 30, Init: "/a", Budget: 200, Ticks: []int{50, 60}, Files: []api.BootFile{fileOf("/a", data)}}
		if _, err := kernel.Boot(script); err != nil {
			var f *api.Fault
			if !errors.As(err, &f) || f.Layer != "kernel" {
				t.Fatal(err)
			}
			continue
		}
		ran++
		w := begin(t, script)
		w.toEnd()
	}
	if ran < 50 {
		t.Errorf("%d ran", ran)
	}
}
