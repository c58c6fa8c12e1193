package call_test

// The chapter's examples, one after another, word by word.

import (
	"bytes"
	"testing"

	"hartix/api"
)

func exampleFiles() []api.BootFile {
	return []api.BootFile{{Path: "/d", Type: api.TypeDir}, {Path: "/p", Type: api.TypeFile, Data: smallest()}}
}

func example(t *testing.T) *world {
	t.Helper()
	w, fault := boot(t, 64, exampleFiles(), "/p")
	if fault != nil {
		t.Fatal(fault)
	}
	return w
}

func TestExampleBeginning(t *testing.T) {
	w := example(t)
	w.want("the file's bytes", len(smallest()), 124)
	w.want("free", w.r.Count(), 51)
	regs, _ := w.o.Regs(0)
	want := api.Regs{}
	want.X[10], want.X[2], want.X[11] = 1, 0x2fe0, 0x2fe0
	w.want("the registers", regs, want)
	w.want("its argument", w.in(0, 0x2ff0, 3), []byte("/p\x00"))
	w.want("the addresses", w.in(0, 0x2fe0, 16), []byte{0xf0, 0x2f, 0, 0, 0, 0, 0, 0, 0, 0, 0, 0, 0, 0, 0, 0})
	l := w.o.Look()
	w.want("descriptors", l.Procs[0].Fds, [16]int{0, 0, 0, -1, -1, -1, -1, -1, -1, -1, -1, -1, -1, -1, -1, -1})
	w.want("open files", l.Files, []api.FileLook{{Kind: api.FileIno, Refs: 3, Readable: true, Writable: true, Ino: 2}})
}

func TestExamples1To6(t *testing.T) {
	w := example(t)
	w.gives(1, 0, 11)
	w.want("Pc", w.look(0).Regs.Pc, uint64(4))
	w.gives(-1, 0, 1<<32+1)
	w.want("Pc", w.look(0).Regs.Pc, uint64(8))

	w.gives(2, 0, 1)
	w.want("the child's state", w.look(1).State, api.ProcRun)
	w.want("the child's a0", w.look(1).Regs.X[10], uint64(0))
	w.want("free", w.r.Count(), 42)
	slot, ok := w.o.Pick(0)
	w.want("Pick(0)", []any{slot, ok}, []any{1, true})

	w.gives(0, 1, 4, 0x2000)
	w.want("the pipe's numbers", w.in(1, 0x2000, 8), []byte{3, 0, 0, 0, 4, 0, 0, 0})
	w.sleepsOn(api.ChanRead, 0, 1, 5, 3, 0x2000, 4)
	w.want("GoOn", w.goOn(1), 0)
	w.gives(0, 0, 6, 2)
	inCall, killed := w.o.Doing(1)
	w.want("Doing(1)", []bool{inCall, killed}, []bool{true, true})
	w.want("GoOn", w.goOn(1), api.NextGone)
	w.want("the zombie", []any{w.look(1).State, w.look(1).Status}, []any{api.ProcZombie, int32(-1)})

	w.gives(2, 0, 3, 0)
	w.want("free", w.r.Count(), 51)
	w.gives(-1, 0, 3, 0)

	w.gives(0x3000, 0, 12, 4096)
	w.want("free", w.r.Count(), 50)
	w.gives(0x4000, 0, 12, minus1)
	w.want("the size", w.look(0).Size, uint64(0x3fff))

	w.sleepsOn(api.ChanTime, 0, 0, 13, 1)
	w.tick()
	w.goesOn(0, 0)
	w.gives(1, 0, 14)
}

func TestExample7(t *testing.T) {
	files := exampleFiles()
	for _, c := range []struct {
		frames int
		files  []api.BootFile
		first  string
		at     int
		want   api.Errno
	}{
		{64, files, "/d", 2, api.ErrCallInit},
		{64, files, "/x", 2, api.ErrTreeNone},
		{64, []api.BootFile{{Path: "/q", Type: 4}}, "/q", 0, api.ErrCallBoot},
		{64, make([]api.BootFile, 65), "/p", 64, api.ErrCallBoot},
		{1, files, "/p", -1, api.ErrCallRoom},
	} {
		_, fault := boot(t, c.frames, c.files, c.first)
		if fault == nil || fault.At != c.at || fault.Err != error(c.want) || fault.Layer != "call" {
			t.Errorf("%q: %v, want %d at %d", c.first, fault, c.want, c.at)
		}
	}
}

// The trampoline is as ram made it.
func TestTrampolineStays(t *testing.T) {
	w := example(t)
	w.fork(0)
	w.end(1, 0)
	w.gives(2, 0, api.SysWait, 0)
	got, _ := w.r.Raw(api.RamBase)
	fresh, _ := newRam(t, 1).Raw(api.RamBase)
	if !bytes.Equal(got, fresh) {
		t.Error("it was written")
	}
}
