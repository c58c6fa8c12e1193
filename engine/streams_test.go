package engine_test

// W8: pipes and lines.

import (
	"bytes"
	"fmt"
	"strings"
	"testing"

	"hartix/api"
	"hartix/kernel"
)

// heard is what came of a read: what was read by whom.
type heard struct {
	pid  int
	data string
	end  bool // it was told 0
}

// memoryOf gives n bytes of a process from an address on.
func memoryOf(m *kernel.Machine, p *api.ProcLook, va uint64, n int) string {
	var b []byte
	for len(b) < n {
		at := va + uint64(len(b))
		piece := int(min(pageSize-at%pageSize, uint64(n-len(b))))
		data, _ := m.Ram().Read(p.Pages[at/pageSize].Frame+at%pageSize, piece)
		b = append(b, data...)
	}
	return string(b)
}

// listen plays a machine to its end and tells what was read by the calls read of a descriptor, in order. Behind each of these calls its program has an instruction that leaves its registers and bytes as they are. look is asked behind each step.
func listen(m *kernel.Machine, fd uint64, look func(l api.OsLook)) []heard {
	var all []heard
	before := m.Os().Look()
	for {
		_, over := m.Step()
		l := m.Os().Look()
		look(l)
		for k := range l.Procs {
			p := &l.Procs[k]
			old := procIn(before, p.Slot)
			if old == nil || old.Pid != p.Pid || p.InCall || p.State != api.ProcRun || old.Regs.X[17] != api.SysRead {
				continue
			}
			inRead := old.InCall && old.Pending.Args[0] == fd
			comesToIt := !old.InCall && old.Regs.X[10] == fd && wordAt(m, old) == 0x73 && old.Regs.Pc != p.Regs.Pc
			if n := int64(p.Regs.X[10]); (inRead || comesToIt) && n >= 0 {
				all = append(all, heard{p.Pid, memoryOf(m, p, p.Regs.X[11], int(n)), n == 0})
			}
		}
		if over {
			return all
		}
		before = l
	}
}

// stream gathers the bytes that were ever in the pipe 0; -1: one that was put and taken ahead of one step, so that only who has read it can tell it.
type stream struct {
	t   *testing.T
	all []int
}

func (s *stream) look(l api.OsLook) {
	for _, q := range l.Pipes {
		if q.Num != 0 {
			continue
		}
		for len(s.all) < int(q.State.Writes) {
			s.all = append(s.all, -1)
		}
		s.note(int(q.State.Reads), string(q.State.Bytes))
		if len(s.all) != int(q.State.Writes) || len(s.all) != int(q.State.Reads)+len(q.State.Bytes) {
			s.t.Fatalf("%d bytes are written, %d read, %d stand in the pipe, behind %d", q.State.Writes, q.State.Reads, len(q.State.Bytes), len(s.all))
		}
	}
}

// note notes the bytes from a place on, and asks that they are what was known of them.
func (s *stream) note(at int, data string) {
	s.t.Helper()
	for k, c := range []byte(data) {
		if at+k >= len(s.all) || s.all[at+k] >= 0 && s.all[at+k] != int(c) {
			s.t.Fatalf("byte %d is %d, and was another one", at+k, c)
		}
		s.all[at+k] = int(c)
	}
}

// voices is a script of writers and readers of one pipe. Writer w writes bytes w, w + 4, w + 8, .. (modulo 256), so that each byte tells who has written it.
func voices(s *scatter, writers, readers int) (text string, wrote [][]byte) {
	var b strings.Builder
	fmt.Fprintf(&b, "frames 600\nbudget 20000\ninit /a\nasm /a\nla a0, ends\nli a7, 4\necall\n")
	for w := range writers {
		n := pick(s, 1, 5, 200, 512, 513, 1400)
		var data []byte
		for k := range n {
			data = append(data, byte(w+4*k))
		}
		wrote = append(wrote, data)
		fmt.Fprintf(&b, "li a7, 1\necall\nbeqz a0, writer%d\n", w)
	}
	for r := range readers {
		fmt.Fprintf(&b, "li a7, 1\necall\nbeqz a0, reader%d\n", r)
	}
	b.WriteString("li a0, 3\nli a7, 21\necall\nli a0, 4\nli a7, 21\necall\nwait: li a0, 0\nli a7, 3\necall\nbgez a0, wait\nli a0, 0\nli a7, 2\necall\n")
	for w, data := range wrote {
		chunk := pick(s, 1, 7, 100, 512, 513, 700, 1500)
		if len(data)/chunk > 30 {
			chunk = 100
		}
		fmt.Fprintf(&b, "writer%[1]d: li a0, 3\nli a7, 21\necall\nla s0, data%[1]d\nla s1, behind%[1]d\nwrite%[1]d: li a2, %[2]d\nsub t0, s1, s0\nbge t0, a2, some%[1]d\nmv a2, t0\nsome%[1]d: beqz a2, gone\nli a0, 4\nmv a1, s0\nli a7, 16\necall\nnop\nadd s0, s0, a0\nj write%[1]d\n", w, chunk)
	}
	for r := range readers {
		fmt.Fprintf(&b, "reader%[1]d: li a0, 4\nli a7, 21\necall\nread%[1]d: li a0, 3\nla a1, room\nli a2, %[2]d\nli a7, 5\necall\nnop\nbgtz a0, read%[1]d\nj gone\n", r, pick(s, 1, 3, 64, 500, 512, 600, 2000))
	}
	b.WriteString("gone: li a0, 0\nli a7, 2\necall\n.data\nends: .zero 8\n")
	for w, data := range wrote {
		fmt.Fprintf(&b, "data%d:\n", w)
		for _, c := range data {
			fmt.Fprintf(&b, ".byte %d\n", c)
		}
		fmt.Fprintf(&b, "behind%d:\n", w)
	}
	b.WriteString(".bss\nroom: .zero 2000\nend\n")
	for k := s.below(50); k < 20000; k += 1 + s.below(pick(s, 10, 10, 60)) {
		if strings.Count(b.String(), "\ntick") < 4000 {
			fmt.Fprintf(&b, "tick %d\n", k)
		}
	}
	return b.String(), wrote
}

func TestPipes(t *testing.T) {
	v := inParts(t, 8, func(t *testing.T, part int, v variety) {
		s := scatter(9000 + part)
		for range 3 {
			text, wrote := voices(&s, 1+s.below(4), 1+s.below(3))
			m := boot(t, text)
			if m == nil {
				t.Fatal("can't be played")
			}
			put := &stream{t: t}
			got, told := 0, false
			for _, h := range listen(m, 3, put.look) {
				// What is read is what was written, from its beginning on, whoever reads.
				put.note(got, h.data)
				got += len(h.data)
				told = told || h.end
			}
			// Each writer's bytes are in order; all of them, since the writers are gone and somebody was told 0.
			apart := make([][]byte, 4)
			for _, c := range put.all {
				apart[c&3] = append(apart[c&3], byte(c))
			}
			for w := range wrote {
				if !bytes.Equal(apart[w], wrote[w]) {
					t.Fatalf("writer %d has written %d bytes, and %d came, or others", w, len(wrote[w]), len(apart[w]))
				}
			}
			if got != len(put.all) || !told {
				t.Fatalf("%d bytes of %d were read, the end was told: %v", got, len(put.all), told)
			}
			v["bytes"] += got
		}
	})
	v.atLeast(t, map[string]int{"bytes": 6000})
}

// A writer whose readers are gone is told -1; what was read until then is a beginning.
func TestBrokenPipe(t *testing.T) {
	text := runs(2000, `la a0, ends
li a7, 4
ecall
li a7, 1
ecall
beqz a0, reader
li a0, 3
li a7, 21
ecall
li a0, 4
la a1, room
li a2, 2000
li a7, 16
ecall
li a7, 2
ecall
reader: li a0, 3
la a1, room
li a2, 100
li a7, 5
ecall
nop
li a7, 2
ecall
.data
ends: .zero 8
.bss
room: .zero 2000`, "every 3 7 200\n")
	if report := checkTell(t, text); !strings.Contains(report, "halt exit -1 at ") {
		t.Errorf("%q", report)
	}
	m := boot(t, text)
	put := &stream{t: t}
	got := listen(m, 3, put.look)
	if len(got) != 1 || got[0].data != strings.Repeat("\x00", 100) {
		t.Errorf("%+v", got)
	}
}

// linesTyped gives what the line rules make of what is typed, as long as there is room: all that is finished.
func linesTyped(typed string) string {
	done, line := "", ""
	for _, c := range []byte(typed) {
		switch c {
		case 0x15:
			line = ""
		case 8, 0x7f:
			line = line[:max(0, len(line)-1)]
		case 0:
		case 13, 10, 4:
			done, line = done+line+map[byte]string{13: "\n", 10: "\n", 4: "\x04"}[c], ""
		default:
			line += string([]byte{c})
		}
	}
	return done
}

func TestLinesAreRead(t *testing.T) {
	s := scatter(188)
	for range 150 {
		typed, k := "", s.below(20)
		var events strings.Builder
		for range s.below(12) {
			some := pick(&s, "a", "bc", "line\n", "\r", "\x04", "\b", "x\x7fy", "\x15", "\x00", "\xff\n", "two\nlines\n", "end\x04")
			fmt.Fprintf(&events, "input %d %s\n", k, quoted([]byte(some)))
			typed += some
			k += s.below(40)
		}
		most := pick(&s, 1, 2, 5, 100)
		text := runs(1000, fmt.Sprintf("read: li a0, 0\nla a1, room\nli a2, %d\nli a7, 5\necall\nnop\nj read\n.bss\nroom: .zero 100", most), events.String())
		m := boot(t, text)
		got := ""
		for _, h := range listen(m, 0, func(api.OsLook) {}) {
			if h.end {
				got += "\x04"
				continue
			}
			if len(h.data) > most || strings.Contains(strings.TrimSuffix(h.data, "\n"), "\n") || strings.Contains(h.data, "\x04") {
				t.Fatalf("%q was read at once, of %q", h.data, typed)
			}
			got += h.data
		}
		if want := linesTyped(typed); got != want {
			t.Fatalf("%q was read, of %q, want %q", got, typed, want)
		}
	}
}
