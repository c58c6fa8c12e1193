package engine_test

// W9: the tree is one.

import (
	"fmt"
	"slices"
	"strings"
	"testing"

	"hartix/api"
	"hartix/kernel"
)

// leafs is the tree of a system, read from its memory.
type leafs struct {
	t       *testing.T
	m       *kernel.Machine
	inodes  map[int]api.InodeLook
	entries map[int][]plainEntry // of each directory
}

func readTree(t *testing.T, m *kernel.Machine, l api.OsLook) *leafs {
	x := &leafs{t: t, m: m, inodes: map[int]api.InodeLook{}, entries: map[int][]plainEntry{}}
	for _, n := range l.Inodes {
		x.inodes[n.Ino] = n
		for at := 0; n.Type == api.TypeDir && at < n.Size; at += 16 {
			b, ok := m.Ram().Read(n.Blocks[at/pageSize]+uint64(at%pageSize), 16)
			if !ok {
				t.Fatalf("a block of inode %d is no held frame", n.Ino)
			}
			x.entries[n.Ino] = append(x.entries[n.Ino], plainEntry{int(b[0]) + int(b[1])<<8, strings.TrimRight(string(b[2:]), "\x00")})
		}
	}
	return x
}

func (x *leafs) fail(format string, args ...any) {
	x.t.Helper()
	x.t.Fatalf("ahead of step %d: %s; %+v", x.m.At(), fmt.Sprintf(format, args...), x.entries)
}

// walk goes down from a directory, and counts how often each inode is named.
func (x *leafs) walk(ino, up int, named map[int]int) {
	x.t.Helper()
	entries := x.entries[ino]
	if len(entries) < 2 || entries[0] != (plainEntry{ino, "."}) || entries[1] != (plainEntry{up, ".."}) {
		x.fail("directory %d begins with other entries", ino)
	}
	names := map[string]int{}
	for _, e := range entries[2:] {
		if e.ino == 0 {
			continue
		}
		if names[e.name]++; names[e.name] > 1 || isDots(e.name) || e.name == "" || strings.ContainsAny(e.name, "/\x00") {
			x.fail("a name of directory %d: %q", ino, e.name)
		}
		n, there := x.inodes[e.ino]
		if !there {
			x.fail("inode %d has a name, and is not there", e.ino)
		}
		named[e.ino]++
		if n.Type == api.TypeDir {
			if named[e.ino] > 1 {
				x.fail("directory %d has two names", e.ino)
			}
			x.walk(e.ino, ino, named)
			named[ino]++ // its '..'
		}
	}
}

func checkTree(t *testing.T, m *kernel.Machine, l api.OsLook, v variety) {
	t.Helper()
	x := readTree(t, m, l)
	named := map[int]int{rootIno: 1}
	x.walk(rootIno, rootIno, named)
	for ino, n := range x.inodes {
		if n.Links != named[ino] {
			x.fail("inode %d says %d names, and has %d", ino, n.Links, named[ino])
		}
		if n.Links == 0 {
			v["without a name"]++
			if n.Refs == 0 {
				x.fail("inode %d has no name, and nobody holds it", ino)
			}
			if n.Type == api.TypeDir && (n.Size != 0 || len(x.entries[ino]) > 0) {
				x.fail("directory %d is gone, and has entries", ino)
			}
		}
		if n.Links > 1 && n.Type == api.TypeFile {
			v["two names"]++
		}
	}
	v["looks"]++
}

// treeProgram does little but name things.
func treeProgram(s *scatter) string {
	d := &drawing{s: s}
	d.put("begin:")
	for range 30 {
		switch s.below(8) {
		case 0:
			d.call(api.SysOpen, d.path("a0"), "li a1, "+pick(s, "0", "0x202", "0x201"))
			d.put("mv s2, a0")
		case 1:
			d.call(api.SysClose, "mv a0, s2")
		case 2:
			d.call(api.SysWrite, "mv a0, s2", "la a1, bytes", "li a2, "+pick(s, "10", "4000"))
		case 3:
			d.call(pick(s, api.SysFork, api.SysFork, api.SysWait), "li a0, 0")
		default:
			d.names()
		}
	}
	d.put("j begin")
	d.put(".data")
	for k, path := range paths() {
		d.put(fmt.Sprintf("path%d: .asciz %q", k, path))
	}
	d.put("bytes: .ascii \"some bytes\"", ".bss", ".zero 5000")
	return d.lines.String()
}

func TestOneTree(t *testing.T) {
	v := inParts(t, 8, func(t *testing.T, part int, v variety) {
		s := scatter(10000 + part)
		for round := range 12 {
			text := fmt.Sprintf("frames %d\nbudget 600\ninit /a\nasm /a\n%send\ndir /d\ntext /d/g x\nevery 9 %d 60\n", pick(&s, 40, 100, 300), treeProgram(&s), 1+s.below(20))
			if round%3 == 0 {
				text = drawnRun(&s)
			}
			m := boot(t, text)
			for over := m == nil; !over; {
				checkTree(t, m, m.Os().Look(), v)
				_, over = m.Step()
			}
		}
	})
	v.atLeast(t, map[string]int{"looks": 20000, "without a name": 200, "two names": 200})
}

// One without a name lives just as long as somebody holds it: its bytes can be read until it is closed, then its frames are free.
func TestWithoutAName(t *testing.T) {
	text := runs(200, `la a0, path
li a1, 0x202
li a7, 15
ecall
mv s0, a0
la a1, bytes
li a2, 4096
li a7, 16
ecall
la a0, path
li a7, 18
ecall
nameless: nop
li a7, 1
ecall
mv a0, s0
li a7, 21
ecall
held: nop
li a0, 0
li a7, 3
ecall
let: li a7, 2
ecall
.data
path: .asciz "f"
.bss
bytes: .zero 4096`, "tick 40\n")
	m := boot(t, text)
	image := strings.SplitN(strings.SplitN(text, "asm /a\n", 2)[1], "\nend\n", 2)[0]
	first := len(m.Os().Look().Inodes)
	seen := map[string]int{}
	for {
		_, over := m.Step()
		l := m.Os().Look()
		for _, label := range []string{"nameless", "held", "let"} {
			if l.Procs[0].Regs.Pc == addressOf(t, image, label) {
				seen[label] = len(l.Inodes) - first
				if at := slices.IndexFunc(l.Inodes, func(n api.InodeLook) bool { return n.Links == 0 }); at >= 0 && (l.Inodes[at].Size != 4096 || len(l.Inodes[at].Blocks) != 1) {
					t.Errorf("%s: %+v", label, l.Inodes[at])
				}
			}
		}
		if over {
			break
		}
	}
	// The child holds it, until it has closed it too.
	if fmt.Sprint(seen) != "map[held:1 let:0 nameless:1]" {
		t.Errorf("%v", seen)
	}
}
