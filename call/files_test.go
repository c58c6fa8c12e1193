package call_test

// The rows pipe, fstat, dup, close, open (P15.12), and P15.13.

import (
	"fmt"
	"math"
	"testing"

	"hartix/api"
)

// badFds are numbers that are no descriptor of a process that has 0, 1 and 2 alone.
func badFds() []uint64 { return []uint64{3, 4, 15, 16, 17, 100, minus1, 1 << 31, 1<<31 - 1, 1<<32 + 3} }

func TestDescriptorsThatAreNone(t *testing.T) {
	w := begin(t)
	for _, fd := range badFds() {
		for _, number := range []uint64{api.SysRead, api.SysWrite, api.SysFstat, api.SysDup, api.SysClose} {
			for _, n := range []uint64{0, 1} {
				w.nothing(0, number, fd, stack, n)
			}
		}
	}
}

func TestPipe(t *testing.T) {
	w := begin(t)
	w.gives(0, 0, api.SysClose, 1)
	w.gives(0, 0, api.SysPipe, top-8)
	w.want("numbers", w.in(0, top-8, 8), []byte{1, 0, 0, 0, 3, 0, 0, 0}) // the two least
	w.gives(0, 0, api.SysPipe, stack+1)
	w.want("numbers", w.in(0, stack+1, 8), []byte{4, 0, 0, 0, 5, 0, 0, 0})
	w.want("open files", w.o.Look().Files[1:], []api.FileLook{
		{Num: 1, Kind: api.FileReader, Refs: 1, Readable: true},
		{Num: 2, Kind: api.FileWriter, Refs: 1, Writable: true},
		{Num: 3, Kind: api.FileReader, Refs: 1, Readable: true, Pipe: 1},
		{Num: 4, Kind: api.FileWriter, Refs: 1, Writable: true, Pipe: 1},
	})
	for _, p := range []uint64{0, code, guarded, top - 7, top, stack - 4, minus1, minus1 - 7, 1 << 38} {
		w.nothing(0, api.SysPipe, p)
	}
}

func TestPipeWantsDescriptors(t *testing.T) {
	w := begin(t)
	for range 12 {
		w.ask(0, api.SysDup, 0)
	}
	w.want("one is free", w.look(0).Fds[15], -1)
	w.nothing(0, api.SysPipe, stack)
	w.gives(15, 0, api.SysDup, 0)
	w.nothing(0, api.SysPipe, stack)
	w.nothing(0, api.SysDup, 0)
	w.nothing(0, api.SysOpen, w.path(0, "/p"), 0)
	w.nothing(0, api.SysOpen, w.path(0, "/new"), api.OCreate)
	w.gives(0, 0, api.SysClose, 7)
	w.gives(0, 0, api.SysClose, 14)
	w.gives(0, 0, api.SysPipe, stack)
	w.want("numbers", w.in(0, stack, 8), []byte{7, 0, 0, 0, 14, 0, 0, 0})
}

// fillFiles opens files in children until so many places are left.
func (w *world) fillFiles(left int) {
	w.t.Helper()
	for slot := 0; 100-len(w.o.Look().Files) > left; {
		if next, fd := w.ask(slot, api.SysOpen, w.path(slot, "/p"), 0); next != api.NextUser || fd < 0 {
			slot = w.fork(0)
			for fd := range uint64(16) {
				w.ask(slot, api.SysClose, fd)
			}
		}
	}
	w.want("open files", len(w.o.Look().Files), 100-left)
}

func TestOpenFilesAreAHundred(t *testing.T) {
	w := beginWith(t, 200)
	last := w.fork(0)
	w.fillFiles(2)
	w.gives(0, last, api.SysPipe, stack)
	w.nothing(last, api.SysOpen, w.path(last, "/p"), 0)
	w.nothing(last, api.SysOpen, w.path(last, "/new"), api.OCreate)
	w.nothing(last, api.SysPipe, stack)
	w.gives(0, last, api.SysClose, 3)
	w.nothing(last, api.SysPipe, stack)
	w.gives(3, last, api.SysOpen, w.path(last, "/p"), 0)
	w.gives(5, last, api.SysDup, 4) // no place is needed for that
}

func TestPipesAreThirtyTwo(t *testing.T) {
	w := beginWith(t, 200)
	for k := range 32 {
		slot := k % 8
		if k < 7 {
			w.fork(0)
		}
		w.gives(0, slot, api.SysPipe, stack)
	}
	w.nothing(7, api.SysPipe, stack)
	w.gives(0, 1, api.SysClose, 3)
	w.nothing(7, api.SysPipe, stack) // its other end is open
	w.gives(0, 1, api.SysClose, 4)
	w.want("pipes", len(w.o.Look().Pipes) < 32, true)
	w.gives(0, 7, api.SysPipe, stack)
}

func TestDupAndClose(t *testing.T) {
	w := begin(t)
	w.gives(3, 0, api.SysOpen, w.path(0, "/d/f"), 0)
	w.gives(4, 0, api.SysDup, 3)
	w.gives(5, 0, api.SysDup, 4)
	w.want("one open file", w.o.Look().Files[1], api.FileLook{Num: 1, Kind: api.FileIno, Refs: 3, Readable: true, Ino: fIno})
	w.gives(0, 0, api.SysClose, 4)
	w.gives(6, 0, api.SysRead, 3, stack, 6)
	w.gives(6, 0, api.SysRead, 5, stack, 99)
	w.gives(4, 0, api.SysDup, 0)
	fds := w.look(0).Fds
	w.want("which", fds[:7], []int{0, 0, 0, 1, 0, 1, -1})
	w.gives(0, 0, api.SysClose, 3)
	w.gives(0, 0, api.SysClose, 5)
	w.want("open files", len(w.o.Look().Files), 1)
	w.nothing(0, api.SysClose, 5)
}

// Who sleeps at a pipe is woken by the last close of its other end, not by an earlier one.
func TestLettingAPipesEndGo(t *testing.T) {
	w := begin(t)
	w.gives(0, 0, api.SysPipe, stack)
	w.fork(0)
	w.gives(0, 1, api.SysClose, 4)
	w.gives(5, 0, api.SysDup, 4)
	w.sleepsOn(api.ChanRead, 0, 1, api.SysRead, 3, stack, 4)
	w.gives(0, 0, api.SysClose, 3)
	w.gives(0, 0, api.SysClose, 4)
	w.want("it sleeps", w.canRun(1), false)
	w.gives(0, 0, api.SysClose, 5)
	w.goesOn(0, 1)
	w.gives(0, 1, api.SysClose, 3)
	w.want("pipes", w.o.Look().Pipes, []api.PipeLook(nil))
}

// An inode without a name is there as long as it is open.
func TestLettingAnInodeGo(t *testing.T) {
	w := begin(t)
	free := w.r.Count()
	w.gives(3, 0, api.SysOpen, w.path(0, "/new"), api.OCreate|api.OWronly)
	w.gives(4096, 0, api.SysWrite, 3, stack, 4096)
	w.gives(4, 0, api.SysOpen, w.path(0, "/new"), 0)
	w.gives(0, 0, api.SysUnlink, w.path(0, "/new"))
	w.want("free", w.r.Count(), free-1)
	w.gives(0, 0, api.SysClose, 3)
	w.gives(4, 0, api.SysRead, 4, stack, 4)
	w.want("free", w.r.Count(), free-1)
	w.gives(0, 0, api.SysClose, 4)
	w.want("free", w.r.Count(), free)
}

func TestFstat(t *testing.T) {
	w := begin(t)
	w.gives(3, 0, api.SysOpen, w.path(0, "/d/f"), 0)
	w.gives(4, 0, api.SysOpen, w.path(0, "/"), 0)
	w.gives(0, 0, api.SysLink, w.path(0, "/d/f"), w.text(0, stack+100, "/two"))
	for _, c := range []struct {
		fd   uint64
		want []byte
	}{
		{0, []byte{1, 0, 0, 0, terminalIno, 0, 0, 0, 3, 0, 1, 0, 0, 0, 0, 0, 0, 0, 0, 0, 0, 0, 0, 0}},
		{3, []byte{1, 0, 0, 0, fIno, 0, 0, 0, 2, 0, 2, 0, 0, 0, 0, 0, 12, 0, 0, 0, 0, 0, 0, 0}},
		{4, []byte{1, 0, 0, 0, root, 0, 0, 0, 1, 0, 2, 0, 0, 0, 0, 0, 160, 0, 0, 0, 0, 0, 0, 0}},
	} {
		for _, at := range []uint64{stack, stack + 7, top - 24} {
			w.poke(0, at, []byte("########################"))
			w.gives(0, 0, api.SysFstat, c.fd, at)
			w.want(fmt.Sprint("fstat of ", c.fd), w.in(0, at, 24), c.want)
		}
		for _, at := range []uint64{0, code, guarded, top - 23, top, stack - 1, minus1} {
			w.nothing(0, api.SysFstat, c.fd, at)
		}
	}
	w.gives(5, 0, api.SysOpen, w.path(0, "/long"), api.ORdwr|api.OTrunc)
	w.gives(4096, 0, api.SysWrite, 5, stack, 4096)
	w.gives(4096, 0, api.SysWrite, 5, stack, 4096)
	w.gives(0, 0, api.SysFstat, 5, stack)
	w.want("size", w.in(0, stack+16, 8), []byte{0, 0x20, 0, 0, 0, 0, 0, 0})
	w.gives(0, 0, api.SysPipe, stack)
	w.nothing(0, api.SysFstat, 6, stack)
	w.nothing(0, api.SysFstat, 7, stack)
}

// modes are open's modes: all flags, and bits that are none.
func modes() []uint64 {
	var all []uint64
	for _, low := range []uint64{0, 1, 2, 3} {
		for _, high := range []uint64{0, api.OCreate, api.OTrunc, api.OCreate | api.OTrunc} {
			all = append(all, low|high)
		}
	}
	return append(all, 4, 0x100, 0x800, 0x204, 1<<31, minus1, 1<<32, 1<<32+1, minus1-1, minus1-0x200)
}

// All modes on all kinds of paths: the machine tells what each of them must come to.
func TestOpenInAllModes(t *testing.T) {
	w := begin(t)
	w.gives(0, 0, api.SysMkdir, w.path(0, "/e"))
	seen := map[string]int{}
	for _, path := range []string{"/d/f", "/d", "/", "", ".", "/console", "/con", "/odd", "/new", "/none/x", "/p/x", "/e/y/", "/d/..", "/d/f/"} {
		for _, mode := range modes() {
			before := len(w.o.Look().Inodes)
			next, fd := w.ask(0, api.SysOpen, w.path(0, path), mode)
			if next != api.NextUser {
				t.Fatalf("open: %d", next)
			}
			made := len(w.o.Look().Inodes) > before
			seen[fmt.Sprint(fd, made)]++
			if fd < 0 {
				continue
			}
			w.gives(0, 0, api.SysClose, uint64(fd))
			if made {
				w.gives(0, 0, api.SysUnlink, w.path(0, path))
			}
		}
	}
	if len(seen) != 3 || seen["-1 false"] < 100 || seen["3 false"] < 100 || seen["3 true"] < 20 {
		t.Errorf("%v", seen)
	}
}

func TestOpenIsReadAndWritten(t *testing.T) {
	w := begin(t)
	for _, c := range []struct {
		mode            uint64
		reads, writes   bool
		readIs, writeIs int64
	}{
		{api.ORdonly, true, false, 1, -1}, {api.OWronly, false, true, -1, 1}, {api.ORdwr, true, true, 1, 1}, {api.OWronly | api.ORdwr, false, true, -1, 1},
		{0x800, true, false, 1, -1}, {0x801, false, true, -1, 1}, {0x802, true, true, 1, 1}, {api.OCreate, true, false, 1, -1}, {api.OCreate | api.ORdwr, true, true, 1, 1},
	} {
		w.gives(3, 0, api.SysOpen, w.path(0, "/d/f"), c.mode)
		f := w.o.Look().Files[1]
		w.want("the open file", f, api.FileLook{Num: 1, Kind: api.FileIno, Refs: 1, Readable: c.reads, Writable: c.writes, Ino: fIno})
		w.gives(c.readIs, 0, api.SysRead, 3, stack, 1)
		w.gives(c.writeIs, 0, api.SysWrite, 3, stack, 1)
		w.gives(max(c.readIs-1, -1), 0, api.SysRead, 3, stack, 0) // n 0 too
		w.gives(max(c.writeIs-1, -1), 0, api.SysWrite, 3, stack, 0)
		w.gives(0, 0, api.SysClose, 3)
	}
}

func TestOpenTruncates(t *testing.T) {
	w := begin(t)
	for _, mode := range []uint64{api.OTrunc, api.OTrunc | api.OWronly, api.OTrunc | api.OCreate, api.OTrunc | api.ORdwr} {
		w.gives(3, 0, api.SysOpen, w.path(0, "/x"), api.OCreate|api.OWronly)
		w.gives(4000, 0, api.SysWrite, 3, stack, 4000)
		free := w.r.Count()
		w.gives(4, 0, api.SysOpen, w.path(0, "/x"), mode&^api.OTrunc)
		w.gives(5, 0, api.SysOpen, w.path(0, "/x"), mode)
		w.want("its block is free", w.r.Count(), free+1)
		w.nothing(0, api.SysWrite, 3, stack, 1) // the offset is above the size now
		w.nothing(0, api.SysWrite, 3, stack, 0)
		w.gives(0, 0, api.SysClose, 3)
		w.gives(0, 0, api.SysClose, 4)
		w.gives(0, 0, api.SysClose, 5)
	}
	w.gives(3, 0, api.SysOpen, w.path(0, "/console"), api.OTrunc|api.ORdwr) // no file: nothing is lost
}

// A file that open can't open is not made; what it makes is there even if it is not written.
func TestOpenMakes(t *testing.T) {
	w := begin(t)
	w.gives(3, 0, api.SysOpen, w.path(0, "d/made"), api.OCreate)
	w.gives(0, 0, api.SysClose, 3)
	w.gives(3, 0, api.SysOpen, w.path(0, "/d/made"), 0)
	w.want("its inode", w.m.x.Look(w.o.Look().Files[1].Ino).Type, api.TypeFile)
	w.gives(0, 0, api.SysChdir, w.path(0, "/d"))
	w.gives(4, 0, api.SysOpen, w.path(0, "made"), api.OCreate)
	w.want("the same", w.o.Look().Files[2].Ino, w.o.Look().Files[1].Ino)
	w.nothing(0, api.SysOpen, w.path(0, "none"), 0)
	w.nothing(0, api.SysOpen, w.path(0, "none"), api.OTrunc|api.ORdwr)
}

// Frames and inodes that open wants are asked ahead of it.
func TestOpenWantsFrames(t *testing.T) {
	w := begin(t)
	w.gives(0, 0, api.SysMkdir, w.path(0, "/e"))
	for k := range 254 { // the rest of the directory's block
		if k < 150 {
			w.gives(0, 0, api.SysMknod, w.path(0, fmt.Sprint("/e/", k)), 1, 1)
		} else {
			w.gives(0, 0, api.SysLink, w.path(0, "/p"), w.text(0, stack+100, fmt.Sprint("/e/", k)))
		}
	}
	w.leave(0)
	w.nothing(0, api.SysOpen, w.path(0, "/e/more"), api.OCreate)
	w.nothing(0, api.SysMknod, w.path(0, "/e/more"), 1, 1)
	w.nothing(0, api.SysMkdir, w.path(0, "/more"))
	w.gives(3, 0, api.SysOpen, w.path(0, "/more"), api.OCreate) // the root's block has room
}

func TestInodesAreAHundredNinetyNine(t *testing.T) {
	w := begin(t)
	for k := range 190 {
		w.gives(0, 0, api.SysMknod, w.path(0, fmt.Sprint(k)), 3, 4)
	}
	w.nothing(0, api.SysOpen, w.path(0, "more"), api.OCreate)
	w.nothing(0, api.SysMknod, w.path(0, "more"), 1, 1)
	w.nothing(0, api.SysMkdir, w.path(0, "more"))
	w.gives(3, 0, api.SysOpen, w.path(0, "p"), api.OCreate)
	w.gives(0, 0, api.SysUnlink, w.path(0, "7"))
	w.gives(4, 0, api.SysOpen, w.path(0, "more"), api.OCreate)
}

func TestModesAreInts(t *testing.T) {
	w := begin(t)
	w.gives(3, 0, api.SysOpen, w.path(0, "/d"), 1<<32) // a directory is opened with mode 0 alone
	w.nothing(0, api.SysOpen, w.path(0, "/d"), 1<<32+1)
	w.nothing(0, api.SysOpen, w.path(0, "/d"), 0x800)
	w.nothing(0, api.SysOpen, w.path(0, "/d"), math.MaxInt32+1)
	w.nothing(0, api.SysOpen, w.path(0, "/d"), api.OCreate)
}
