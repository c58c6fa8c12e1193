package engine_test

// W5: isolation.

import (
	"bytes"
	"fmt"
	"slices"
	"strings"
	"testing"

	"hartix/api"
	"hartix/engine"
	"hartix/kernel"
)

// wordAt gives the word that a process comes to; 0, if it can't fetch it.
func wordAt(m *kernel.Machine, p *api.ProcLook) uint32 {
	for _, page := range p.Pages {
		if page.Page == p.Regs.Pc/pageSize && page.Perm&mayFetch != 0 && page.Perm&isUsers != 0 && p.Regs.Pc%4 == 0 {
			v, _ := m.Ram().Load(page.Frame+p.Regs.Pc%pageSize, 4)
			return uint32(v)
		}
	}
	return 0
}

// isEvent tells whether a tick or an input comes ahead of step k.
func isEvent(script api.Script, k int) bool {
	return slices.Contains(script.Ticks, k) || slices.ContainsFunc(script.Inputs, func(i api.Input) bool { return i.At == k })
}

// TestInstructionsWriteTheirOwnPages looks at the whole memory around each instruction that is no call, and does not end its process.
func TestInstructionsWriteTheirOwnPages(t *testing.T) {
	v := inParts(t, 8, func(t *testing.T, part int, v variety) {
		s := scatter(6000 + part)
		for range 8 {
			text := drawnRunOf(&s, drawing{quiet: part%2 == 0})
			script, err := engine.Parse(text)
			if err != nil {
				t.Fatal(err)
			}
			m := boot(t, text)
			for over := m == nil; !over; {
				slot, on := m.On()
				alone := on && !isEvent(script, m.At())
				l := m.Os().Look()
				if p := procIn(l, slot); alone && wordAt(m, p) != 0x73 {
					before := m.Ram().Image()
					_, over = m.Step()
					if now := procIn(m.Os().Look(), slot); now.State == api.ProcRun {
						v["looked at"]++
						onlyItsOwn(t, m, before, p, v)
					}
				} else {
					_, over = m.Step()
				}
			}
		}
	})
	v.atLeast(t, map[string]int{"looked at": 5000, "stores": 40})
}

// onlyItsOwn asks that nothing was written but into the process's pages that may be written, and its trapframe.
func onlyItsOwn(t *testing.T, m *kernel.Machine, before api.RamImage, p *api.ProcLook, v variety) {
	t.Helper()
	may := map[uint64]bool{p.Frame: true}
	for _, page := range p.Pages {
		may[page.Frame] = page.Perm&(mayWrite|isUsers) == mayWrite|isUsers
	}
	after := m.Ram().Image()
	if len(after.Held) != len(before.Held) || !slices.Equal(after.Free, before.Free) {
		t.Fatalf("behind step %d other frames are held", m.At()-1)
	}
	for k, frame := range after.Held {
		if bytes.Equal(frame.Data, before.Held[k].Data) {
			continue
		}
		if frame.Pa != p.Frame {
			v["stores"]++
		}
		if !may[frame.Pa] {
			t.Fatalf("the instruction at %x of slot %d, step %d, has written into the frame %x", p.Regs.Pc, p.Slot, m.At()-1, frame.Pa)
		}
	}
}

// moment is all that a process has in its hands.
type moment struct {
	regs  api.Regs
	size  uint64
	perms string
	bytes string
}

func momentOf(m *kernel.Machine, p *api.ProcLook) moment {
	now := moment{regs: p.Regs, size: p.Size}
	var b []byte
	for _, page := range p.Pages {
		now.perms += fmt.Sprint(page.Page, page.Perm, " ")
		data, _ := m.Ram().Read(page.Frame, pageSize)
		b = append(b, data...)
	}
	now.bytes = string(b)
	return now
}

// life follows the process of a pid from the moment on in which it is there and stands at a place: what it has behind each of its instructions, as long as W5 promises something of it.
func life(t *testing.T, text string, pid int, from uint64) []moment {
	t.Helper()
	m := boot(t, text)
	if m == nil {
		t.Fatalf("can't be played:\n%s", text)
	}
	var all []moment
	for {
		var p *api.ProcLook
		l := m.Os().Look()
		for k := range l.Procs {
			if l.Procs[k].Pid == pid {
				p = &l.Procs[k]
			}
		}
		switch {
		case p == nil:
			if len(all) > 0 {
				return all
			}
		case p.State == api.ProcZombie || p.Killed || p.InCall:
			return all
		case len(all) == 0 && p.Regs.Pc != from:
		default:
			now := momentOf(m, p)
			if len(all) == 0 || all[len(all)-1] != now {
				all = append(all, now)
			}
			if x := p.Regs.X; wordAt(m, p) == 0x73 && x[17] != api.SysGetpid && x[17] != api.SysSbrk && x[17] >= 1 && x[17] <= 21 {
				return all
			}
			if x := p.Regs.X; x[10] == 1<<64-1 && x[17] == api.SysSbrk {
				return all // a want, perhaps
			}
		}
		if _, over := m.Step(); over {
			return all
		}
	}
}

// TestOthersAreNotSeen plays scripts that are alike but for the bytes of one boot file. The first process forks: its first child does what hangs on itself alone, its second one runs that file.
func TestOthersAreNotSeen(t *testing.T) {
	v := inParts(t, 8, func(t *testing.T, part int, v variety) {
		s := scatter(7000 + part)
		for range 6 {
			mind := drawing{s: &s, quiet: true}
			mind.put("li a7, 1", "ecall", "beqz a0, own", "li a7, 1", "ecall", "beqz a0, other", "wait: li a0, 0", "li a7, 3", "ecall", "j wait", "other: la a0, path0", "la a1, args", "li a7, 7", "ecall", "ebreak", "own:")
			first := mind.program()
			from := addressOf(t, first, "own")
			events := drawnEvents(&s)
			var lives [][]moment
			for range 4 {
				d := drawing{s: &s, timeless: s.below(2) == 0}
				text := "frames 200\nbudget 600\ninit /a\nasm /a\n" + first + "end\nasm /b\n" + d.program() + "end\n" + events
				if one := life(t, text, 2, from); len(one) > 0 {
					lives = append(lives, one)
				}
			}
			alike(t, lives, v)
		}
	})
	v.atLeast(t, map[string]int{"moments": 5000})
}

// alike asks that lives that begin alike go on alike, as far as they go.
func alike(t *testing.T, lives [][]moment, v variety) {
	t.Helper()
	for _, other := range lives[min(1, len(lives)):] {
		if other[0] != lives[0][0] {
			t.Fatal("the processes do not begin alike")
		}
		for k := range min(len(other), len(lives[0])) {
			v["moments"]++
			if other[k] != lives[0][k] {
				t.Fatalf("behind %d instructions: %+v, and %+v", k, other[k].regs, lives[0][k].regs)
			}
		}
	}
}

// addressOf gives the address of a label of a program.
func addressOf(t *testing.T, text, label string) uint64 {
	t.Helper()
	for _, symbol := range imageOf(t, text).Symbols {
		if symbol.Name == label {
			return symbol.Value
		}
	}
	t.Fatalf("no %s in:\n%s", label, text)
	return 0
}

// A process reaches neither another one's memory nor the kernel's, wherever it looks: of every page beyond its own each access is a fault.
func TestNoPageBeyond(t *testing.T) {
	for _, at := range []string{"0x5000", "0x6000", "0x7000", "0x10000", "0x80000000", "0x80001000", "0x3fffffd000", "0x3fffffe000", "0x3ffffff000", "0x4000000000", "-4096", "0x8000000000000000"} {
		for _, access := range []string{"ld a0, 0(t0)", "sd a0, 0(t0)", "lb a0, 0(t0)", "sb a0, 0(t0)", "jr t0"} {
			report := engine.Tell(runs(99, "li t0, "+at+"\n"+access+"\nli a7, 2\necall\n.data\n.byte 1", ""))
			if !strings.Contains(report, "halt exit -1 at ") {
				t.Errorf("%s at %s: %q", access, at, report)
			}
		}
	}
}
