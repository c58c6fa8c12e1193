package file_test

// A table of open files beside what the chapter says that it must be: every call is made on both, and behind each one everything is held against each other (P12.8, P12.10).

import (
	"bytes"
	"fmt"
	"math"
	"reflect"
	"slices"
	"testing"

	"hartix/api"
	"hartix/console"
	"hartix/file"
	"hartix/ram"
	"hartix/tree"
)

type world struct {
	t    *testing.T
	r    [2]*ram.Ram // of the table's tree, and of the other one
	x    *tree.Tree
	c    *console.Console
	s    *file.Files
	m    *plain
	held map[int]int // how often others hold an inode
	next byte        // what the next byte is that is written
}

// The inodes of a world's tree, beside the root.
const (
	root  = 1
	fileF = iota + 1
	terminal
	odd
	folder
	fileG
	terminal2
	major0
	majorMinus
	major257
	nobody // there is no such inode
)

func plant(t *testing.T, frames int) (*ram.Ram, *tree.Tree) {
	t.Helper()
	r, err := ram.New(frames)
	if err != nil {
		t.Fatal(err)
	}
	x, errno := tree.New(r)
	if errno != api.OK {
		t.Fatal(errno)
	}
	for _, n := range []struct {
		ino          int
		path         string
		typ          int
		major, minor int16
	}{
		{fileF, "f", api.TypeFile, 0, 0}, {terminal, "con", api.TypeDev, 1, 0}, {odd, "odd", api.TypeDev, 9, 0}, {folder, "d", api.TypeDir, 0, 0},
		{fileG, "g", api.TypeFile, 0, 0}, {terminal2, "con2", api.TypeDev, 1, 7}, {major0, "zero", api.TypeDev, 0, 1}, {majorMinus, "minus", api.TypeDev, -1, 1}, {major257, "257", api.TypeDev, 257, 1},
	} {
		if ino, errno := x.Make(root, n.path, n.typ, n.major, n.minor); ino != n.ino || errno != api.OK {
			t.Fatalf("Make of %s = %d, %d", n.path, ino, errno)
		}
	}
	return r, x
}

func begin(t *testing.T) *world { return beginWith(t, 40) }

func beginWith(t *testing.T, frames int) *world {
	t.Helper()
	w := &world{t: t, c: console.New(), held: map[int]int{}}
	w.m = &plain{c: console.New(), files: map[int]api.FileLook{}, pipes: map[int]plainPipe{}}
	w.r[0], w.x = plant(t, frames)
	w.r[1], w.m.x = plant(t, frames)
	w.s = file.New(w.x, w.c)
	if w.s == nil {
		t.Fatal("New gives nil")
	}
	w.check("New")
	return w
}

// The calls, made on both. Each gives what the table answered.

func (w *world) open(ino int, readable, writable bool) (int, api.Errno) {
	w.t.Helper()
	call := fmt.Sprintf("Open(%d, %v, %v)", ino, readable, writable)
	f, errno := w.s.Open(ino, readable, writable)
	if want, wantErrno := w.m.open(ino, readable, writable); f != want || errno != wantErrno {
		w.t.Fatalf("%s = %d, %d, want %d, %d", call, f, errno, want, wantErrno)
	}
	w.check(call)
	return f, errno
}

func (w *world) pipe() (int, int, api.Errno) {
	w.t.Helper()
	reader, writer, errno := w.s.Pipe()
	if r, wr, e := w.m.pipe(); reader != r || writer != wr || errno != e {
		w.t.Fatalf("Pipe = %d, %d, %d, want %d, %d, %d", reader, writer, errno, r, wr, e)
	}
	w.check("Pipe")
	return reader, writer, errno
}

func (w *world) hold(f int) api.Errno {
	w.t.Helper()
	errno := w.s.Hold(f)
	if want := w.m.hold(f); errno != want {
		w.t.Fatalf("Hold(%d) = %d, want %d", f, errno, want)
	}
	w.check(fmt.Sprintf("Hold(%d)", f))
	return errno
}

func (w *world) drop(f int) ([]api.Chan, api.Errno) {
	w.t.Helper()
	asleep := w.asleep()
	wake, errno := w.s.Drop(f)
	call := fmt.Sprintf("Drop(%d)", f)
	if want, wantErrno := w.m.drop(f); !reflect.DeepEqual(wake, want) || errno != wantErrno {
		w.t.Fatalf("%s = %#v, %d, want %#v, %d", call, wake, errno, want, wantErrno)
	}
	w.check(call)
	w.checkWoken(call, asleep, wake)
	return wake, errno
}

// read asks with Peek first, which tells the same and changes nothing.
func (w *world) read(f, n int) api.FileGot {
	w.t.Helper()
	asleep := w.asleep()
	call := fmt.Sprintf("Read(%d, %d)", f, n)
	peek := w.s.Peek(f, n)
	w.check("the Peek of " + call)
	got := w.s.Read(f, n)
	want := w.m.read(f, n)
	if !reflect.DeepEqual(got, want) {
		w.t.Fatalf("%s = %+v, want %+v", call, got, want)
	}
	if !reflect.DeepEqual(peek, want) {
		w.t.Fatalf("the Peek of %s = %+v, want %+v", call, peek, want)
	}
	w.check(call)
	w.checkWoken(call, asleep, got.Wake)
	return got
}

func (w *world) write(f int, b []byte) api.FileSent {
	w.t.Helper()
	asleep := w.asleep()
	call := fmt.Sprintf("Write(%d, %d bytes)", f, len(b))
	sent := w.s.Write(f, b)
	if want := w.m.write(f, b); !reflect.DeepEqual(sent, want) {
		w.t.Fatalf("%s = %+v, want %+v", call, sent, want)
	}
	w.check(call)
	w.checkWoken(call, asleep, sent.Wake)
	return sent
}

func (w *world) keys(text string) {
	w.t.Helper()
	for _, b := range []byte(text) {
		w.c.Type(b)
		w.m.c.Type(b)
	}
	w.check("Type")
}

// on does something with both trees that is not the table's.
func (w *world) on(what string, do func(x *tree.Tree) any) {
	w.t.Helper()
	if got, want := do(w.x), do(w.m.x); got != want {
		w.t.Fatalf("%s: %v, on the other tree %v", what, got, want)
	}
	w.check(what)
}

func (w *world) unlink(path string) {
	w.t.Helper()
	w.on("Unlink", func(x *tree.Tree) any { return x.Unlink(root, path) })
}

func (w *world) trunc(ino int) {
	w.t.Helper()
	w.on("Trunc", func(x *tree.Tree) any { return x.Trunc(ino) })
}

// holdIno is another one's hold.
func (w *world) holdIno(ino int) {
	w.t.Helper()
	w.held[ino]++
	w.on("tree.Hold", func(x *tree.Tree) any { return x.Hold(ino) })
}

// leave takes frames until so many are free.
func (w *world) leave(free int) {
	w.t.Helper()
	for _, r := range w.r {
		for r.Count() > free {
			r.Alloc()
		}
	}
	w.check("Alloc")
}

// fresh gives n bytes that go on where the last ones ended, so that a byte at a wrong place is told.
func (w *world) fresh(n int) []byte {
	b := make([]byte, n)
	for k := range b {
		w.next += 7
		b[k] = w.next
	}
	return b
}

// check holds everything that can be looked at against what it must be.
func (w *world) check(behind string) {
	w.t.Helper()
	for _, f := range places(mostFiles) {
		if got, want := w.s.Look(f), w.m.files[f]; got != want {
			w.t.Fatalf("behind %s: Look(%d) = %+v, want %+v", behind, f, got, want)
		}
		got, errno := w.s.Stat(f)
		if want, wantErrno := w.m.stat(f); got != want || errno != wantErrno {
			w.t.Fatalf("behind %s: Stat(%d) = %+v, %d, want %+v, %d", behind, f, got, errno, want, wantErrno)
		}
	}
	for _, p := range places(mostPipes) {
		got, ok := w.s.Pipes(p)
		if want, wantOk := w.m.look(p); !reflect.DeepEqual(got, want) || ok != wantOk {
			w.t.Fatalf("behind %s: Pipes(%d) = %+v, %v, want %+v, %v", behind, p, got, ok, want, wantOk)
		}
	}
	if files, pipes := w.s.Left(); files != mostFiles-len(w.m.files) || pipes != mostPipes-len(w.m.pipes) {
		w.t.Fatalf("behind %s: Left = %d, %d", behind, files, pipes)
	}
	if got, want := w.c.State(), w.m.c.State(); !reflect.DeepEqual(got, want) {
		w.t.Fatalf("behind %s: the console has %q, %q, want %q, %q", behind, got.Ready, got.Line, want.Ready, want.Line)
	}
	w.checkTree(behind)
	w.checkRefs(behind)
}

func (w *world) checkTree(behind string) {
	w.t.Helper()
	for ino := range nobody + 3 {
		got, want := w.x.Look(ino), w.m.x.Look(ino)
		if len(got.Blocks) != len(want.Blocks) {
			w.t.Fatalf("behind %s: inode %d has %d blocks, want %d", behind, ino, len(got.Blocks), len(want.Blocks))
		}
		got.Blocks, want.Blocks = nil, nil
		if !reflect.DeepEqual(got, want) || !bytes.Equal(w.x.Read(ino, 0, math.MaxInt), w.m.x.Read(ino, 0, math.MaxInt)) {
			w.t.Fatalf("behind %s: inode %d is %+v, want %+v, or has other bytes", behind, ino, got, want)
		}
	}
	if w.x.Left() != w.m.x.Left() || w.r[0].Count() != w.r[1].Count() {
		w.t.Fatalf("behind %s: %d inodes and %d frames are free, want %d, %d", behind, w.x.Left(), w.r[0].Count(), w.m.x.Left(), w.r[1].Count())
	}
}

// checkRefs is P12.8, told by looks alone.
func (w *world) checkRefs(behind string) {
	w.t.Helper()
	refs, readers, writers := map[int]int{}, map[int]int{}, map[int]int{}
	for f := range mostFiles {
		look := w.s.Look(f)
		if (look.Refs > 0) != (look.Kind != api.FileNone) || look.Refs < 0 {
			w.t.Fatalf("behind %s: %d is %+v", behind, f, look)
		}
		switch look.Kind {
		case api.FileIno:
			refs[look.Ino]++
		case api.FileReader:
			readers[look.Pipe]++
		case api.FileWriter:
			writers[look.Pipe]++
		}
	}
	for ino := range nobody + 3 {
		if got, want := w.x.Look(ino).Refs, refs[ino]+w.held[ino]; got != want {
			w.t.Fatalf("behind %s: inode %d is held %d times, want %d", behind, ino, got, want)
		}
	}
	for p := range mostPipes {
		look, ok := w.s.Pipes(p)
		if ok != (readers[p]+writers[p] > 0) || look.State.Reader != (readers[p] == 1) || look.State.Writer != (writers[p] == 1) {
			w.t.Fatalf("behind %s: pipe %d is %v, with %d readers' ends and %d writers'", behind, p, ok, readers[p], writers[p])
		}
	}
}

// asleep gives the channels on which somebody may sleep whose pipe has both its ends.
func (w *world) asleep() []api.Chan {
	var all []api.Chan
	for p := range mostPipes {
		look, _ := w.s.Pipes(p)
		if !look.State.Reader || !look.State.Writer {
			continue
		}
		switch len(look.State.Bytes) {
		case 0:
			all = append(all, api.Chan{Kind: api.ChanRead, N: p})
		case mostBytes:
			all = append(all, api.Chan{Kind: api.ChanWrite, N: p})
		}
	}
	return all
}

// checkWoken is P12.10: whoever slept ahead of a call, and needs not sleep behind it, was named in its wakes.
func (w *world) checkWoken(call string, before []api.Chan, wakes []api.Chan) {
	w.t.Helper()
	behind := w.asleep()
	for _, c := range before {
		look, _ := w.s.Pipes(c.N)
		has := look.State.Reader
		if c.Kind == api.ChanWrite {
			has = look.State.Writer
		}
		if has && !slices.Contains(behind, c) && !slices.Contains(wakes, c) {
			w.t.Fatalf("%s wakes %v, but not %v", call, wakes, c)
		}
	}
}

// places are all numbers of a table of n, and some that are none.
func places(n int) []int {
	all := []int{math.MinInt, -1 << 32, -n, -1}
	for k := range n {
		all = append(all, k)
	}
	return append(all, n, n+1, 256, 1<<32, 1<<32+1, math.MaxInt)
}

// numbers are all kinds of numbers of bytes that may be asked for.
func numbers() []int {
	return []int{math.MinInt, -1 << 32, -1, 0, 1, 2, 3, 511, 512, 513, 4095, 4096, 4097, 1 << 32, 1<<32 + 1, math.MaxInt}
}

// want holds an outcome against the one that a test says.
func (w *world) want(what string, got, want any) {
	w.t.Helper()
	if !reflect.DeepEqual(got, want) {
		w.t.Fatalf("%s: %+v, want %+v", what, got, want)
	}
}

// opened opens what can be opened, to read and write it.
func (w *world) opened(ino int) int {
	w.t.Helper()
	f, errno := w.open(ino, true, ino != root && ino != folder)
	w.want("Open", errno, api.OK)
	return f
}

func (w *world) piped() (int, int) {
	w.t.Helper()
	reader, writer, errno := w.pipe()
	w.want("Pipe", errno, api.OK)
	return reader, writer
}

func done(data string, wake ...api.Chan) api.FileGot {
	return api.FileGot{How: api.FileDone, Data: newOrNil([]byte(data)), Wake: wake}
}

func sent(n int, wake ...api.Chan) api.FileSent {
	return api.FileSent{How: api.FileDone, N: n, Wake: wake}
}

func toRead(p int) api.Chan { return api.Chan{Kind: api.ChanRead, N: p} }

func toWrite(p int) api.Chan { return api.Chan{Kind: api.ChanWrite, N: p} }
