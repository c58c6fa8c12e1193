package kernel_test

// P16.9, and what P16.10 says of every run.

import (
	"bytes"
	"reflect"
	"slices"
	"strconv"
	"strings"
	"testing"

	"hartix/api"
	"hartix/kernel"
)

// held is what must not turn of a process while others do something: its registers, and its memory.
type held struct {
	pid   int
	regs  api.Regs
	size  uint64
	pages [][]byte
}

func hold(m *kernel.Machine, p api.ProcLook) held {
	h := held{pid: p.Pid, regs: p.Regs, size: p.Size}
	for _, page := range p.Pages {
		b, _ := m.Ram().Read(page.Frame, api.PageSize)
		h.pages = append(h.pages, b)
	}
	return h
}

// TestNothingTurnsByItself holds each process that can run, and is not on the hart behind a step, against itself ahead of it: whoever did an instruction in it is on the hart still, or can't run.
func TestNothingTurnsByItself(t *testing.T) {
	s := scatter(8)
	asked := 0
	for range 40 {
		m, err := kernel.Boot(drawScript(t, &s))
		if err != nil {
			continue
		}
		before := map[int]held{}
		for over := false; !over; {
			_, over = m.Step()
			on, _ := m.On()
			now := map[int]held{}
			for _, p := range m.Os().Look().Procs {
				now[p.Slot] = hold(m, p)
				was, there := before[p.Slot]
				if !there || was.pid != p.Pid || p.Slot == on || p.State != api.ProcRun {
					continue
				}
				asked++
				if !reflect.DeepEqual(was, now[p.Slot]) {
					t.Fatalf("ahead of step %d: the process of pid %d is not as it was", m.At(), p.Pid)
				}
			}
			before = now
		}
	}
	if asked < 1000 {
		t.Errorf("asked %d times", asked)
	}
}

// TestRegistersAcrossTurns fills all registers and asks for them again, while ticks come at every other step and others do the same with other numbers.
func TestRegistersAcrossTurns(t *testing.T) {
	var b strings.Builder
	b.WriteString(fork("other") + fork("other"))
	fillAndAsk := func(label string, from int) {
		b.WriteString(label + ":\n")
		for r := 1; r < 32; r++ {
			b.WriteString("li x" + strconv.Itoa(r) + ", " + strconv.Itoa(from+r) + "\n")
		}
		for range 5 {
			for r := 1; r < 31; r++ {
				b.WriteString("addi x31, x" + strconv.Itoa(r) + ", " + strconv.Itoa(-from-r) + "\nbnez x31, wrong\n")
			}
		}
	}
	fillAndAsk("mine", 1)
	b.WriteString(exit(4) + "wrong: " + exit(5))
	fillAndAsk("other", 900)
	b.WriteString("j other\n")
	s := script(t, b.String())
	s.Budget = 3000
	for k := 0; k < s.Budget; k += 2 {
		s.Ticks = append(s.Ticks, k)
	}
	r, err := kernel.Run(s)
	if err != nil || r.Halt.Code != api.HaltExit || r.Halt.Status != 4 || len(r.Steps) != 3 {
		t.Errorf("%+v, %v", r, err)
	}
}

// TestBetweenTicks lets a process leave the hart in drawn runs at a tick, by a call, or by ending, alone.
func TestBetweenTicks(t *testing.T) {
	s := scatter(9)
	left := 0
	for range 60 {
		script := drawScript(t, &s)
		m, err := kernel.Boot(script)
		if err != nil {
			continue
		}
		for {
			was, on := m.On()
			k := m.At()
			if _, over := m.Step(); over {
				break
			}
			now, _ := m.On()
			if !on || now == was || slices.Contains(script.Ticks, k) {
				continue
			}
			left++
			for _, p := range m.Os().Look().Procs {
				if p.Slot == was && p.State == api.ProcRun {
					t.Fatalf("slot %d left the hart at step %d, and can run", was, k)
				}
			}
		}
	}
	if left < 100 {
		t.Errorf("%d left", left)
	}
}

// TestATickMore has ticks at steps where it alone can run, and none: nothing turns but the count.
func TestATickMore(t *testing.T) {
	s := script(t, spin("a", 20)+"li a0, 1\nla a1, text\nli a2, 3\nli a7, 16\necall\n"+exit(2)+".data\ntext: .ascii \"one\"")
	bare, err := kernel.Run(s)
	if err != nil {
		t.Fatal(err)
	}
	for k := range 60 {
		s.Ticks = []int{k}
		r, err := kernel.Run(s)
		if err != nil || !reflect.DeepEqual(r, bare) {
			t.Errorf("a tick at %d: %+v, %v, want %+v", k, r, err, bare)
		}
	}
	s.Ticks = rising(0, 100)
	if r, err := kernel.Run(s); err != nil || !bytes.Equal(r.Output, bare.Output) || r.Halt != bare.Halt {
		t.Errorf("ticks at all steps: %+v, %v", r, err)
	}
}
