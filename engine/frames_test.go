package engine_test

// W3 and W4: every frame is somebody's, and nothing leaks.

import (
	"fmt"
	"slices"
	"testing"

	"hartix/api"
	"hartix/census"
	"hartix/engine"
	"hartix/kernel"
)

// boot boots a script's text; nil: it can't be played.
func boot(t *testing.T, text string) *kernel.Machine {
	t.Helper()
	script, err := engine.Parse(text)
	if err != nil {
		t.Fatalf("%v in:\n%s", err, text)
	}
	m, err := kernel.Boot(script)
	if err != nil {
		return nil
	}
	return m
}

// classes counts who names each frame, and asks that all are named once.
func classes(t *testing.T, m *kernel.Machine, l api.OsLook) {
	t.Helper()
	owners := map[uint64]int{l.Tramp: 1}
	for pa := range m.Ram().FreeList() {
		owners[pa]++
	}
	for _, p := range l.Procs {
		owners[p.Frame]++
		for _, pa := range p.Nodes {
			owners[pa]++
		}
		for _, page := range p.Pages {
			owners[page.Frame]++
		}
	}
	for _, n := range l.Inodes {
		for _, pa := range n.Blocks {
			owners[pa]++
		}
	}
	for k := range m.Ram().Frames() {
		pa := uint64(0x80000000 + pageSize*k)
		if owners[pa] != 1 {
			t.Fatalf("ahead of step %d: the frame %x has %d owners", m.At(), pa, owners[pa])
		}
	}
	if len(owners) != m.Ram().Frames() {
		t.Fatalf("ahead of step %d: %d frames have owners", m.At(), len(owners))
	}
}

// references counts who names open files, inodes and pipes.
func references(t *testing.T, m *kernel.Machine, l api.OsLook) {
	t.Helper()
	files, inodes, ends := map[int]int{}, map[int]int{}, map[[2]int]int{}
	for _, p := range l.Procs {
		for _, f := range p.Fds {
			files[f]++
		}
		inodes[p.Cwd]++
	}
	for _, f := range l.Files {
		if f.Refs != files[f.Num] || f.Refs < 1 {
			t.Fatalf("ahead of step %d: open file %d says %d, and is named %d times", m.At(), f.Num, f.Refs, files[f.Num])
		}
		if f.Kind == api.FileIno {
			inodes[f.Ino]++
		} else {
			ends[[2]int{f.Kind, f.Pipe}]++
		}
		delete(files, f.Num)
	}
	delete(files, -1)
	if len(files) > 0 {
		t.Fatalf("ahead of step %d: descriptors name %v", m.At(), files)
	}
	for _, n := range l.Inodes {
		if n.Refs != inodes[n.Ino] {
			t.Fatalf("ahead of step %d: inode %d says %d, and is named %d times", m.At(), n.Ino, n.Refs, inodes[n.Ino])
		}
	}
	for _, q := range l.Pipes {
		for kind, open := range map[int]bool{api.FileReader: q.State.Reader, api.FileWriter: q.State.Writer} {
			if n := ends[[2]int{kind, q.Num}]; n > 1 || open != (n == 1) {
				t.Fatalf("ahead of step %d: the ends of pipe %d: %v", m.At(), q.Num, ends)
			}
			delete(ends, [2]int{kind, q.Num})
		}
	}
	if len(ends) > 0 {
		t.Fatalf("ahead of step %d: open files name the pipes %v", m.At(), ends)
	}
}

func blocksOf(l api.OsLook) int {
	n := 0
	for _, inode := range l.Inodes {
		n += len(inode.Blocks)
	}
	return n
}

func procIn(l api.OsLook, slot int) *api.ProcLook {
	for k := range l.Procs {
		if l.Procs[k].Slot == slot {
			return &l.Procs[k]
		}
	}
	return nil
}

// TestFramesOfDrawnRuns asks for W3 ahead of every step, and for W4 wherever somebody is waited for and wherever the first process is alone again.
func TestFramesOfDrawnRuns(t *testing.T) {
	v := inParts(t, 8, func(t *testing.T, part int, v variety) {
		s := scatter(5000 + part)
		for range 25 {
			m := boot(t, drawnRun(&s))
			if m == nil {
				continue
			}
			first := m.Os().Look()
			before := first
			for over := false; !over; {
				_, over = m.Step()
				l := m.Os().Look()
				classes(t, m, l)
				references(t, m, l)
				if wrong := census.Take(m.Ram().Frames(), l, slices.Collect(m.Ram().FreeList())).Wrong; wrong != (api.Wrong{}) {
					t.Fatalf("ahead of step %d: %+v", m.At(), wrong)
				}
				freed(t, m, before, l, v)
				alone(t, m, first, l, v)
				before = l
			}
		}
	})
	v.atLeast(t, map[string]int{"waited for": 20, "alone": 500})
}

// freed asks that who was waited for has given back what it was worth: no other change of a step takes or gives as many frames, unless pages or blocks say so.
func freed(t *testing.T, m *kernel.Machine, before, after api.OsLook, v variety) {
	t.Helper()
	taken := blocksOf(after) - blocksOf(before)
	for _, p := range after.Procs {
		old := procIn(before, p.Slot)
		switch {
		case old == nil || old.Pid != p.Pid:
			taken += census.Worth(p)
		default:
			taken += census.Worth(p) - census.Worth(*old)
		}
	}
	gone := 0
	for _, p := range before.Procs {
		if now := procIn(after, p.Slot); now == nil || now.Pid != p.Pid {
			gone += 1 + len(p.Pages) + nodesOf(len(p.Pages))
			v["waited for"]++
		}
	}
	if after.Free != before.Free-taken+gone {
		t.Fatalf("ahead of step %d: %d frames are free, behind %d, with %d taken and %d of the waited for", m.At(), after.Free, before.Free, taken, gone)
	}
}

// alone asks for as many free frames as at the boot, where nothing is left that could hold more.
func alone(t *testing.T, m *kernel.Machine, first, l api.OsLook, v variety) {
	t.Helper()
	if len(l.Procs) == 1 && blocksOf(l) == blocksOf(first) && len(l.Procs[0].Pages) == len(first.Procs[0].Pages) {
		v["alone"]++
		if l.Free != first.Free {
			t.Fatalf("ahead of step %d: the first process is alone again, and %d frames are free, not %d", m.At(), l.Free, first.Free)
		}
	}
}

// TestNothingLeaks has children that take all kinds of things, and are waited for; then all is as it was, round by round.
func TestNothingLeaks(t *testing.T) {
	for name, child := range map[string]string{
		"nothing":       "",
		"memory":        "li a0, 50000\nli a7, 12\necall\nli a0, -3\nli a7, 12\necall",
		"less memory":   "li a0, -5000\nli a7, 12\necall",
		"pipes":         "la a0, room\nli a7, 4\necall\nla a0, room\nli a7, 4\necall\nli a0, 4\nla a1, room\nli a2, 400\nli a7, 16\necall",
		"a program":     "la a0, other\nla a1, args\nli a7, 7\necall",
		"a file":        "la a0, path\nli a1, 0x202\nli a7, 15\necall\nla a1, room\nli a2, 4096\nli a7, 16\necall\nla a0, path\nli a7, 18\necall",
		"a directory":   "la a0, path\nli a7, 20\necall\nla a0, path\nli a7, 9\necall\nla a0, full\nli a7, 18\necall",
		"descriptors":   "li a0, 0\nli a7, 10\necall\nli a0, 1\nli a7, 21\necall",
		"a fault":       "ebreak",
		"its own child": "li a7, 1\necall",
		"a bad program": "la a0, path\nla a1, args\nli a7, 7\necall",
	} {
		text := fmt.Sprintf("frames 100\nbudget 1500\ninit /a\ndir /tmp\nasm /a\nagain: li a7, 1\necall\nbnez a0, parent\n%s\nli a0, 0\nli a7, 2\necall\nparent: li a0, 0\nli a7, 3\necall\nbgez a0, parent\nmark: j again\n.data\npath: .asciz \"tmp/f\"\nfull: .asciz \"/tmp/f\"\nother: .asciz \"/b\"\n.align 3\nargs: .dword other, path, 0\n.bss\nroom: .zero 4096\nend\nasm /b\nli a0, 9000\nli a7, 12\necall\nli a7, 2\necall\nend\n", child)
		m := boot(t, text)
		if m == nil {
			t.Fatalf("%s can't be played:\n%s", name, text)
		}
		first, rounds := m.Os().Look(), 0
		for {
			if _, over := m.Step(); over {
				break
			}
			if l := m.Os().Look(); len(l.Procs) == 1 && l.Procs[0].Regs.X[10] == 1<<64-1 {
				rounds++
				if l.Free != first.Free || blocksOf(l) != blocksOf(first) || len(l.Files) != 1 || len(l.Pipes) != 0 || len(l.Inodes) != len(first.Inodes) {
					t.Fatalf("%s: ahead of step %d %d frames are free, not %d; %d open files, %d pipes, %d inodes", name, m.At(), l.Free, first.Free, len(l.Files), len(l.Pipes), len(l.Inodes))
				}
			}
		}
		if rounds < 4 {
			t.Errorf("%s: %d rounds", name, rounds)
		}
	}
}
