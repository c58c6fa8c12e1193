package exec_test

// The chapter's examples, one after another, word by word.

import (
	"bytes"
	"strings"
	"testing"

	"hartix/api"
	"hartix/exec"
	"hartix/hart"
	"hartix/ram"
	"hartix/space"
)

// stage gives a memory with so many free frames, and a trapframe.
func stage(t *testing.T, free int) (*ram.Ram, uint64) {
	t.Helper()
	r, err := ram.New(free + 2)
	if err != nil {
		t.Fatal(err)
	}
	f, _ := r.Alloc()
	if r.Count() != free {
		t.Fatalf("%d frames are free", r.Count())
	}
	return r, f
}

func mustLoad(t *testing.T, file []byte, args ...string) (*ram.Ram, *space.Space, api.Start) {
	t.Helper()
	r, f := stage(t, 40)
	s, start, errno := exec.Load(r, file, args, f, 0x80000000)
	if errno != api.OK {
		t.Fatalf("Load = %d", errno)
	}
	return r, s, start
}

// perms gives the rights of all pages as a text.
func perms(s *space.Space) string {
	_, pages := s.Look()
	var told []string
	for _, p := range pages {
		one := ""
		for k, name := range []string{"R", "W", "X", "U"} {
			if p.Perm&(2<<k) != 0 {
				one += name
			}
		}
		told = append(told, one)
	}
	return strings.Join(told, " ")
}

func TestExample1(t *testing.T) {
	file := smallestFile(t)
	if n, errno := exec.Demand(file, nil); n != 8 || errno != api.OK {
		t.Errorf("Demand = %d, %d", n, errno)
	}
	_, s, _ := mustLoad(t, file)
	if s.Size() != 0x3000 || perms(s) != "RXU RW RWU" {
		t.Errorf("size %x, %s", s.Size(), perms(s))
	}
}

func TestExample2(t *testing.T) {
	r, s, start := mustLoad(t, smallestFile(t), "ab", "c")
	if start != (api.Start{Entry: 0, Sp: 0x2fc0, Argv: 0x2fc0}) {
		t.Errorf("%+v", start)
	}
	want := make([]byte, page)
	copy(want[0xff0:], "ab")
	copy(want[0xfe0:], "c")
	copy(want[0xfc0:], []byte{0xf0, 0x2f, 0, 0, 0, 0, 0, 0, 0xe0, 0x2f})
	if got, ok := s.In(0x2000, page); !ok || !bytes.Equal(got, want) {
		t.Errorf("% x, %v", got[0xfc0:], ok)
	}
	if regs, trap := hart.Step(r, s.Root(), api.Regs{Pc: start.Entry}); trap.Cause != api.CauseCall || !trap.Taken || regs.Pc != 0 {
		t.Errorf("its first step: %+v, %+v", regs, trap)
	}
}

func TestExample3(t *testing.T) {
	_, s, start := mustLoad(t, smallestFile(t))
	if start != (api.Start{Sp: 0x2ff0, Argv: 0x2ff0}) {
		t.Errorf("%+v", start)
	}
	if got, ok := s.In(0x2ff0, 8); !ok || !bytes.Equal(got, make([]byte, 8)) {
		t.Errorf("% x, %v", got, ok)
	}
}

func TestExample4(t *testing.T) {
	file := smallestFile(t)
	_, s, start := mustLoad(t, file, arg(4064))
	if start.Sp != 0x2000 {
		t.Errorf("%+v", start)
	}
	if got, ok := s.Str(0x2010, page); got != arg(4064) || !ok {
		t.Errorf("%d bytes, %v", len(got), ok)
	}
	for _, c := range []struct {
		args []string
		want api.Errno
	}{
		{[]string{arg(4080)}, api.ErrExecStack},
		{make([]string, 33), api.ErrExecArgs},
		{many(33, 5000), api.ErrExecArgs},
		{append(make([]string, 32), "\x00"), api.ErrExecArgs},
	} {
		if n, errno := exec.Demand(file, c.args); n != 0 || errno != c.want {
			t.Errorf("%d arguments: %d, %d, want %d", len(c.args), n, errno, c.want)
		}
	}
}

func TestExample5(t *testing.T) {
	file := fileOf(t, api.Elf{Segs: []api.Seg{{Flags: reads | fetches, Mem: 1}, {Va: 0x5000, Flags: reads | writes, Mem: 1}}})
	_, s, start := mustLoad(t, file)
	if s.Pages() != 8 || perms(s) != "RXU RWU RWU RWU RWU RWU RW RWU" || start.Sp != 0x7ff0 {
		t.Errorf("%d pages, %s, %+v", s.Pages(), perms(s), start)
	}
}

func TestExample6(t *testing.T) {
	file := smallestFile(t)
	r, f := stage(t, 7)
	if s, start, errno := exec.Load(r, file, nil, f, 0x80000000); s != nil || start != (api.Start{}) || errno != api.ErrExecRoom || r.Count() != 7 {
		t.Errorf("with 7: %v, %+v, %d, %d free", s, start, errno, r.Count())
	}
	r, f = stage(t, 8)
	if s, _, errno := exec.Load(r, file, nil, f, 0x80000000); s == nil || errno != api.OK || r.Count() != 0 {
		t.Errorf("with 8: %v, %d, %d free", s, errno, r.Count())
	}
}
