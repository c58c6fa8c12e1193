package census_test

// Systems that run: ahead of each step each frame is somebody's, and nothing is wrong.

import (
	"slices"
	"strconv"
	"strings"
	"testing"

	"hartix/api"
	"hartix/asm"
	"hartix/census"
	"hartix/elf"
	"hartix/kernel"
)

// data is what the drawn programs have to name.
const data = "\n.data\np0: .asciz \"/d\"\np1: .asciz \"/d/f\"\np2: .asciz \"f\"\np3: .asciz \"/p\"\np4: .asciz \"..\"\np5: .asciz \"/console\"\n.align 3\nargs: .zero 8\nends: .zero 8\nroom: .zero 600\n"

// drawCall gives the lines of a drawn call.
func drawCall(s *scatter) string {
	fd := func() string { return "li a0, " + strconv.Itoa(s.below(8)) + "\n" }
	path := func(reg string) string { return "la " + reg + ", p" + strconv.Itoa(s.below(6)) + "\n" }
	count := func() string { return "li a2, " + pick(s, "1", "20", "600") + "\n" }
	number := pick(s, api.SysFork, api.SysFork, api.SysFork, api.SysWait, api.SysExit, api.SysPipe, api.SysPipe, api.SysRead, api.SysKill, api.SysExec, api.SysChdir, api.SysDup, api.SysSbrk, api.SysSbrk, api.SysSleep, api.SysOpen, api.SysOpen, api.SysWrite, api.SysWrite, api.SysUnlink, api.SysLink, api.SysMkdir, api.SysClose)
	args := ""
	switch number {
	case api.SysExit, api.SysKill, api.SysDup, api.SysClose, api.SysSleep:
		args = fd()
	case api.SysWait:
		args = "li a0, 0\n"
	case api.SysPipe:
		args = "la a0, ends\n"
	case api.SysRead, api.SysWrite:
		args = fd() + "la a1, room\n" + count()
	case api.SysExec:
		args = path("a0") + "la a1, args\n"
	case api.SysSbrk:
		args = "li a0, " + pick(s, "1", "5000", "-1", "-5000", "9000") + "\n"
	case api.SysOpen:
		args = path("a0") + "li a1, " + pick(s, "0", "0x202", "0x601") + "\n"
	case api.SysUnlink, api.SysChdir, api.SysMkdir:
		args = path("a0")
	case api.SysLink:
		args = path("a0") + path("a1")
	}
	return args + "li a7, " + strconv.Itoa(number) + "\necall\n"
}

// drawScript gives a script of a program of drawn calls.
func drawScript(t *testing.T, s *scatter) api.Script {
	t.Helper()
	var b strings.Builder
	for range 40 {
		b.WriteString(drawCall(s))
	}
	image, err := asm.Assemble(b.String() + "again: j again" + data)
	if err != nil {
		t.Fatal(err)
	}
	program, err := elf.Write(asm.Program(image))
	if err != nil {
		t.Fatal(err)
	}
	script := api.Script{Frames: pick(s, 48, 64, 100, 300), Init: "/p", Budget: 900, Files: []api.BootFile{{Path: "/p", Type: api.TypeFile, Data: program}}}
	for k := s.below(30); k < script.Budget; k += 1 + s.below(30) {
		script.Ticks = append(script.Ticks, k)
		if s.below(3) == 0 {
			script.Inputs = append(script.Inputs, api.Input{At: k, Data: []byte("typed\n")})
		}
	}
	return script
}

func lookAt(m *kernel.Machine) seen {
	return seen{m.Ram().Frames(), m.Os().Look(), slices.Collect(m.Ram().FreeList())}
}

// met is what came in the runs.
type met struct {
	steps, zombies, pipes, nameless, others int
}

func (n *met) note(l api.OsLook) {
	n.steps++
	if len(l.Procs) > 2 {
		n.others++
	}
	for _, p := range l.Procs {
		if p.State == api.ProcZombie {
			n.zombies++
		}
	}
	if len(l.Pipes) > 0 {
		n.pipes++
	}
	for _, i := range l.Inodes {
		if i.Links == 0 {
			n.nameless++
		}
	}
}

func TestSystemsThatRun(t *testing.T) {
	s := scatter(6)
	var n met
	for range 40 {
		m, err := kernel.Boot(drawScript(t, &s))
		if err != nil {
			t.Fatal(err)
		}
		for over := false; !over; _, over = m.Step() {
			v := lookAt(m)
			n.note(v.l)
			if w := census.Take(v.frames, v.l, v.free).Wrong; w.Kind != api.WrongNone {
				t.Fatalf("at %d: %v of %+v", m.At(), w, v.l)
			}
			if m.At()%16 == 0 {
				v.holdAll(t, "a system that runs")
				v.holdSums(t)
				v.holdApart(t)
			}
		}
	}
	if n.steps < 5000 || n.others < 1000 || n.zombies < 1000 || n.pipes < 1000 || n.nameless < 50 {
		t.Errorf("%+v", n)
	}
}

// TestSystemsDisturbed turns something of a system that runs.
func TestSystemsDisturbed(t *testing.T) {
	s := scatter(7)
	for range 12 {
		m, err := kernel.Boot(drawScript(t, &s))
		if err != nil {
			t.Fatal(err)
		}
		for over := false; !over; _, over = m.Step() {
			if m.At()%20 > 0 {
				continue
			}
			v := lookAt(m)
			for range 1 + s.below(2) {
				v.disturb(&s)
			}
			v.holdTake(t, "disturbed")
		}
	}
}

// TestOtherFrames: two runs of one script, whose free lists are of another order, have the same looks but for frames.
func TestOtherFrames(t *testing.T) {
	s := scatter(8)
	differ := 0
	for range 6 {
		script := drawScript(t, &s)
		script.Frames = 400
		m, err := kernel.Boot(script)
		if err != nil {
			t.Fatal(err)
		}
		other, err := kernel.Boot(script)
		if err != nil {
			t.Fatal(err)
		}
		one, _ := other.Ram().Alloc()
		two, _ := other.Ram().Alloc()
		other.Ram().Free(one)
		other.Ram().Free(two)
		for over := false; !over; _, over = m.Step() {
			a, b := m.Os().Look(), other.Os().Look()
			areAlike(t, "other frames", a, b, true)
			if len(a.Procs) > 1 && a.Procs[1].Frame != b.Procs[1].Frame {
				differ++
			}
			other.Step()
		}
	}
	if differ < 100 {
		t.Errorf("%d looks had other frames", differ)
	}
}
