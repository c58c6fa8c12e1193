package call_test

// A system beside the abstract machine: every method is called on both, and behind each one everything that can be looked at is held against each other (DOC.md's R), and what must always hold is asked (P15.15, P15.17).

import (
	"bytes"
	"errors"
	"fmt"
	"reflect"
	"slices"
	"testing"

	"hartix/api"
	"hartix/call"
	"hartix/elf"
	"hartix/ram"
)

type world struct {
	t    *testing.T
	r    *ram.Ram
	o    *call.Os
	m    *machine
	step int
	mix  []uint64 // the calls that are drawn
}

func newRam(t *testing.T, frames int) *ram.Ram {
	t.Helper()
	r, err := ram.New(frames)
	if err != nil {
		t.Fatal(err)
	}
	return r
}

// boot calls New, and holds what it answers against the chapter; nil, if it is refused.
func boot(t *testing.T, frames int, files []api.BootFile, first string) (*world, *api.Fault) {
	t.Helper()
	r := newRam(t, frames)
	o, err := call.New(r, files, first)
	m, at, errno := bootPlain(newRam(t, frames), files, first)
	if errno == api.OK {
		if err != nil || o == nil {
			t.Fatalf("New of %q: %v", first, err)
		}
		w := &world{t: t, r: r, o: o, m: m}
		w.check("New")
		return w, nil
	}
	var f *api.Fault
	if o != nil || !errors.As(err, &f) || *f != (api.Fault{Layer: "call", At: at, Err: errno}) {
		t.Fatalf("New of %q: %v, %v, want %d at %d", first, o, err, errno, at)
	}
	return nil, f
}

func mustWrite(program api.Elf) []byte {
	b, err := elf.Write(program)
	if err != nil {
		panic(err)
	}
	return b
}

// smallest is the program of the chapter's examples: three pages. At 1000H is the guard page, at 2000H the stack.
func smallest() []byte {
	return mustWrite(api.Elf{Segs: []api.Seg{{Flags: api.SegR | api.SegX, Data: []byte{0x73, 0, 0, 0}, Mem: 4}}})
}

// pagesLong is a program of so many pages, with code at 0 and data behind it.
func pagesLong(pages int) []byte {
	return mustWrite(api.Elf{Entry: 4, Segs: []api.Seg{
		{Flags: api.SegX, Data: []byte{0x13, 0, 0, 0, 0x73, 0, 0, 0}, Mem: page},
		{Va: page, Flags: api.SegR | api.SegW, Data: []byte("data"), Mem: uint64(pages-1) * page},
	}})
}

// The addresses that the smallest program has.
const (
	code    = 0x0000 // may be read and fetched
	guarded = 0x1000 // nobody's
	stack   = 0x2000 // may be read and written
	top     = 0x3000 // the size
)

const minus1 = 1<<64 - 1

// disk is the files of most tests.
func disk() []api.BootFile {
	return []api.BootFile{
		{Path: "/p", Type: api.TypeFile, Data: smallest()},
		{Path: "/long", Type: api.TypeFile, Data: pagesLong(4)},
		{Path: "/bad", Type: api.TypeFile, Data: []byte("no program")},
		{Path: "/d", Type: api.TypeDir},
		{Path: "d/f", Type: api.TypeFile, Data: []byte("hello, world")},
		{Path: "/odd", Type: api.TypeDev, Major: 7, Minor: 1},
		{Path: "/con", Type: api.TypeDev, Major: 1, Minor: 9},
	}
}

// Their inodes, by the order in which they are made.
const (
	terminalIno = iota + 2
	pIno
	longIno
	badIno
	dIno
	fIno
	oddIno
	conIno
)

func begin(t *testing.T) *world { return beginWith(t, 100) }

func beginWith(t *testing.T, frames int) *world {
	t.Helper()
	w, fault := boot(t, frames, disk(), "/p")
	if fault != nil {
		t.Fatal(fault)
	}
	return w
}

// The methods, called on both.

func (w *world) setRegs(slot int, regs api.Regs) {
	w.t.Helper()
	want := w.m.at(slot) != nil
	if got := w.o.SetRegs(slot, regs); got != want {
		w.t.Fatalf("SetRegs(%d) = %v", slot, got)
	}
	if want {
		regs.X[0] = 0
		w.m.procs[slot].regs = regs
	}
}

// call makes the call that the registers ask for.
func (w *world) call(slot int) int {
	w.t.Helper()
	what := fmt.Sprintf("Call(%d)", slot)
	if p := w.m.at(slot); p != nil {
		what = fmt.Sprintf("call %d(%x) of slot %d", p.regs.X[17], p.regs.X[10:13], slot)
	}
	got := w.o.Call(slot)
	if want := w.m.call(slot); got != want {
		w.t.Fatalf("%s: %d, want %d", what, got, want)
	}
	w.check(what)
	return got
}

func (w *world) goOn(slot int) int {
	w.t.Helper()
	what := fmt.Sprintf("GoOn(%d)", slot)
	got := w.o.GoOn(slot)
	if want := w.m.goOn(slot); got != want {
		w.t.Fatalf("%s: %d, want %d", what, got, want)
	}
	w.check(what)
	return got
}

func (w *world) end(slot int, status int32) {
	w.t.Helper()
	w.o.End(slot, status)
	w.m.end(slot, status)
	w.check(fmt.Sprintf("End(%d, %d)", slot, status))
}

func (w *world) tick() {
	w.t.Helper()
	w.o.Tick()
	w.m.tick()
	w.check("Tick")
}

func (w *world) keys(text string) {
	w.t.Helper()
	for _, b := range []byte(text) {
		w.o.Type(b)
		w.m.typed(b)
		w.check(fmt.Sprintf("Type(%x)", b))
	}
}

// ask fills a7 and the arguments, and makes the call: what came of it, and a0 behind it.
func (w *world) ask(slot int, number uint64, args ...uint64) (int, int64) {
	w.t.Helper()
	p := w.m.at(slot)
	if p == nil {
		w.t.Fatalf("there is nobody in slot %d", slot)
	}
	regs := p.regs
	regs.X[17] = number
	copy(regs.X[10:13], args)
	w.setRegs(slot, regs)
	next := w.call(slot)
	regs, _ = w.o.Regs(slot)
	return next, int64(regs.X[10])
}

// gives makes a call that must answer that value.
func (w *world) gives(want int64, slot int, number uint64, args ...uint64) {
	w.t.Helper()
	if next, got := w.ask(slot, number, args...); next != api.NextUser || got != want {
		w.t.Fatalf("call %d(%x) of slot %d: %d, answers %d, want %d", number, args, slot, next, got, want)
	}
}

// nothing makes a call that must answer -1 and change nothing but a0 and Pc.
func (w *world) nothing(slot int, number uint64, args ...uint64) {
	w.t.Helper()
	regs := w.m.procs[slot].regs
	regs.X[17] = number
	copy(regs.X[10:13], args)
	w.setRegs(slot, regs)
	before, memory := w.o.Look(), w.bytesOf(slot)
	if next := w.call(slot); next != api.NextUser {
		w.t.Fatalf("call %d(%x) of slot %d: %d", number, args, slot, next)
	}
	for k := range before.Procs {
		if p := &before.Procs[k]; p.Slot == slot {
			p.Regs.Pc += 4
			p.Regs.X[10] = minus1
		}
	}
	if behind := w.o.Look(); !reflect.DeepEqual(behind, before) {
		w.t.Fatalf("call %d(%x) of slot %d is no -1, or has changed something: %+v, want %+v", number, args, slot, behind, before)
	}
	if !bytes.Equal(w.bytesOf(slot), memory) {
		w.t.Fatalf("call %d(%x) of slot %d has written", number, args, slot)
	}
}

func (w *world) sleepsOn(kind, n, slot int, number uint64, args ...uint64) {
	w.t.Helper()
	next, _ := w.ask(slot, number, args...)
	w.mustSleep(next, slot, kind, n)
}

func (w *world) mustSleep(next, slot, kind, n int) {
	w.t.Helper()
	if p := w.look(slot); next != api.NextSleep || p.State != api.ProcSleep || p.Chan != (api.Chan{Kind: kind, N: n}) || !p.InCall {
		w.t.Fatalf("slot %d: %d, %+v, want it asleep on %d %d", slot, next, p, kind, n)
	}
}

// goesOn lets a call go on that must answer that value.
func (w *world) goesOn(want int64, slot int) {
	w.t.Helper()
	next := w.goOn(slot)
	if regs, _ := w.o.Regs(slot); next != api.NextUser || int64(regs.X[10]) != want {
		w.t.Fatalf("slot %d goes on: %d, answers %d, want %d", slot, next, int64(regs.X[10]), want)
	}
}

// canRun tells whether a process that slept can run.
func (w *world) canRun(slot int) bool { return w.look(slot).State == api.ProcRun }

func (w *world) look(slot int) api.ProcLook {
	w.t.Helper()
	for _, p := range w.o.Look().Procs {
		if p.Slot == slot {
			return p
		}
	}
	w.t.Fatalf("nobody is in slot %d", slot)
	return api.ProcLook{}
}

// fork makes a child, and tells its slot.
func (w *world) fork(slot int) int {
	w.t.Helper()
	next, pid := w.ask(slot, api.SysFork)
	for _, p := range w.m.procs {
		if p != nil && p.pid == int(pid) && next == api.NextUser {
			return p.slot
		}
	}
	w.t.Fatalf("fork: %d, %d", next, pid)
	return 0
}

// poke lays bytes into a process's memory, whatever its pages let, as if its program had.
func (w *world) poke(slot int, va uint64, b []byte) {
	w.t.Helper()
	pages := w.look(slot).Pages
	for k, x := range b {
		at := va + uint64(k)
		w.m.procs[slot].pages[at/page].data[at%page] = x
		w.r.Store(pages[at/page].Frame+at%page, 1, uint64(x))
	}
}

// text lays a text there, with its 0 behind it, and tells where it is.
func (w *world) text(slot int, va uint64, text string) uint64 {
	w.t.Helper()
	w.poke(slot, va, append([]byte(text), 0))
	return va
}

// path lays a path onto the stack's beginning.
func (w *world) path(slot int, text string) uint64 {
	w.t.Helper()
	return w.text(slot, stack, text)
}

// bytesOf gives all bytes of a process's pages.
func (w *world) bytesOf(slot int) []byte {
	w.t.Helper()
	var all []byte
	for _, p := range w.look(slot).Pages {
		b, _ := w.r.Read(p.Frame, page)
		all = append(all, b...)
	}
	return all
}

// in gives bytes of a process's memory.
func (w *world) in(slot int, va uint64, n int) []byte {
	w.t.Helper()
	return w.bytesOf(slot)[va : va+uint64(n)]
}

func (w *world) want(what string, got, want any) {
	w.t.Helper()
	if !reflect.DeepEqual(got, want) {
		w.t.Fatalf("%s: %+v, want %+v", what, got, want)
	}
}

// leave takes frames until so many are free.
func (w *world) leave(free int) {
	w.t.Helper()
	for w.r.Count() > free {
		w.r.Alloc()
		w.m.r.Alloc()
	}
	w.want("free frames", w.r.Count(), free)
}

// check holds the system against the machine.
func (w *world) check(behind string) {
	w.t.Helper()
	l := w.o.Look()
	n := 0
	for slot, p := range w.m.procs {
		if p == nil {
			continue
		}
		if n >= len(l.Procs) || l.Procs[n].Slot != slot {
			w.t.Fatalf("behind %s: the slot %d is not told", behind, slot)
		}
		w.checkProc(behind, l.Procs[n], p)
		n++
	}
	if n != len(l.Procs) {
		w.t.Fatalf("behind %s: %d processes, want %d", behind, len(l.Procs), n)
	}
	w.checkTables(behind, l)
	w.checkInodes(behind, l)
	w.checkFaces(behind)
	w.checkFrames(behind, l)
	w.checkRefs(behind, l)
	w.checkSleepers(behind, l)
}

func (w *world) checkProc(behind string, got api.ProcLook, p *plainProc) {
	w.t.Helper()
	want := api.ProcLook{
		Slot: p.slot, Pid: p.pid, State: p.state, Parent: p.parent, Chan: p.on, Killed: p.killed, Status: p.status,
		Regs: p.regs, Size: p.size, Cwd: p.cwd, InCall: p.doing != nil,
		Frame: got.Frame, Root: got.Root, Nodes: got.Nodes, Pages: got.Pages,
	}
	for fd := range want.Fds {
		want.Fds[fd] = -1
		if f, ok := p.fds[fd]; ok {
			want.Fds[fd] = f
		}
	}
	if p.doing != nil {
		want.Pending = *p.doing
	}
	if !reflect.DeepEqual(got, want) {
		w.t.Fatalf("behind %s: the process is\n%+v, want\n%+v", behind, got, want)
	}
	if len(got.Nodes) != nodesOf(len(p.pages)) || len(got.Pages) != len(p.pages) || !slices.IsSorted(got.Nodes) || !slices.Contains(got.Nodes, got.Root) {
		w.t.Fatalf("behind %s: slot %d has %d nodes and %d pages, want %d, %d", behind, p.slot, len(got.Nodes), len(got.Pages), nodesOf(len(p.pages)), len(p.pages))
	}
	for k, told := range got.Pages {
		b, _ := w.r.Read(told.Frame, page)
		if told.Page != uint64(k) || told.Perm != p.pages[k].perm || !bytes.Equal(b, p.pages[k].data) {
			w.t.Fatalf("behind %s: page %d of slot %d is %+v, or has other bytes", behind, k, p.slot, told)
		}
	}
	w.checkTrapframe(behind, got)
}

// checkTrapframe is P15.3.
func (w *world) checkTrapframe(behind string, p api.ProcLook) {
	w.t.Helper()
	want := make([]byte, page)
	for i, x := range p.Regs.X {
		if i == 0 {
			x = p.Regs.Pc
		}
		for k := range 8 {
			want[8*i+k] = byte(x >> (8 * k))
		}
	}
	if b, _ := w.r.Read(p.Frame, page); !bytes.Equal(b, want) {
		w.t.Fatalf("behind %s: the trapframe of slot %d is % x", behind, p.Slot, b[:300])
	}
}

func (w *world) checkTables(behind string, l api.OsLook) {
	w.t.Helper()
	var files []api.FileLook
	for f := range mostFile {
		if file := w.m.files[f]; file != nil {
			files = append(files, *file)
		}
	}
	if !reflect.DeepEqual(l.Files, files) {
		w.t.Fatalf("behind %s: the open files are\n%+v, want\n%+v", behind, l.Files, files)
	}
	var pipes []api.PipeLook
	for n := range mostPipe {
		if q := w.m.pipes[n]; q != nil {
			s := api.PipeState{Bytes: append([]byte(nil), q.in...), Reads: uint32(q.reads), Writes: uint32(q.writes)}
			s.Reader, s.Writer = w.m.hasEnd(api.FileReader, n), w.m.hasEnd(api.FileWriter, n)
			pipes = append(pipes, api.PipeLook{Num: n, State: s})
		}
	}
	if !reflect.DeepEqual(l.Pipes, pipes) {
		w.t.Fatalf("behind %s: the pipes are\n%+v, want\n%+v", behind, l.Pipes, pipes)
	}
	if !reflect.DeepEqual(l.Console, w.m.c.State()) || l.Ticks != w.m.ticks || l.NextPid != w.m.next || l.Free != w.m.r.Count() || l.Free != w.r.Count() || l.Tramp != api.RamBase {
		w.t.Fatalf("behind %s: %q, %d ticks, the next pid %d, %d frames free (%d), want %q, %d, %d, %d", behind, l.Console, l.Ticks, l.NextPid, l.Free, w.r.Count(), w.m.c.State(), w.m.ticks, w.m.next, w.m.r.Count())
	}
}

func (w *world) checkInodes(behind string, l api.OsLook) {
	w.t.Helper()
	n := 0
	for ino := range 200 {
		want := w.m.x.Look(ino)
		if want.Ino == 0 {
			continue
		}
		if n >= len(l.Inodes) {
			w.t.Fatalf("behind %s: inode %d is not told", behind, ino)
		}
		got := l.Inodes[n]
		n++
		var b []byte
		for _, pa := range got.Blocks {
			block, _ := w.r.Read(pa, page)
			b = append(b, block...)
		}
		if len(got.Blocks) != len(want.Blocks) || !bytes.Equal(b[:min(got.Size, len(b))], contents(w.m.x, ino)) {
			w.t.Fatalf("behind %s: inode %d has %d blocks, want %d, or other bytes", behind, ino, len(got.Blocks), len(want.Blocks))
		}
		got.Blocks, want.Blocks = nil, nil
		if !reflect.DeepEqual(got, want) {
			w.t.Fatalf("behind %s: the inode is %+v, want %+v", behind, got, want)
		}
	}
	if n != len(l.Inodes) {
		w.t.Fatalf("behind %s: %d inodes, want %d", behind, len(l.Inodes), n)
	}
}

// checkFaces asks what is told beside Look.
func (w *world) checkFaces(behind string) {
	w.t.Helper()
	if got := w.o.Output(); !bytes.Equal(got, w.m.out) {
		w.t.Fatalf("behind %s: %q is printed, want %q", behind, got, w.m.out)
	}
	w.step++
	for _, last := range []int{-1, 0, w.step % slots, 63, 64} {
		got, ok := w.o.Pick(last)
		if want, wantOk := w.m.pick(last); got != want || ok != wantOk {
			w.t.Fatalf("behind %s: Pick(%d) = %d, %v, want %d, %v", behind, last, got, ok, want, wantOk)
		}
	}
	for slot := range slots {
		regs, ok := w.o.Regs(slot)
		pa, isProcess := w.o.Root(slot)
		inCall, killed := w.o.Doing(slot)
		p := w.m.procs[slot]
		if p == nil {
			p = &plainProc{}
		}
		if there := w.m.procs[slot] != nil; regs != p.regs || ok != there || isProcess != there || (pa != 0) != there || inCall != (p.doing != nil) || killed != p.killed {
			w.t.Fatalf("behind %s: slot %d: %+v, %v, %x, %v, %v, %v", behind, slot, regs, ok, pa, isProcess, inCall, killed)
		}
	}
	status, over := w.o.Ended()
	if first := w.m.procs[0]; status != first.status || over != (first.state == api.ProcZombie) {
		w.t.Fatalf("behind %s: Ended = %d, %v", behind, status, over)
	}
}

// checkFrames is P15.15: each frame is in one class. (Those that leave took are nobody's.)
func (w *world) checkFrames(behind string, l api.OsLook) {
	w.t.Helper()
	named := map[uint64]int{l.Tramp: 1}
	for pa := range w.r.FreeList() {
		named[pa]++
	}
	for _, p := range l.Procs {
		named[p.Frame]++
		for _, pa := range p.Nodes {
			named[pa]++
		}
		for _, told := range p.Pages {
			named[told.Frame]++
		}
	}
	for _, n := range l.Inodes {
		for _, pa := range n.Blocks {
			named[pa]++
		}
	}
	for pa, times := range named {
		if isFrame := pa%page == 0 && pa >= api.RamBase && pa < api.RamBase+uint64(w.r.Frames())*page; times != 1 || !isFrame {
			w.t.Fatalf("behind %s: the frame %x has %d owners", behind, pa, times)
		}
	}
	taken := 0
	for _, p := range w.m.procs {
		if p != nil {
			taken += len(p.frames)
		}
	}
	for ino := range 200 {
		taken += len(w.m.x.Look(ino).Blocks)
	}
	if len(named) != 1+l.Free+taken {
		w.t.Fatalf("behind %s: %d frames have owners, want %d", behind, len(named), 1+l.Free+taken)
	}
}

// checkRefs is P15.15 of open files and inodes.
func (w *world) checkRefs(behind string, l api.OsLook) {
	w.t.Helper()
	files, inodes := map[int]int{}, map[int]int{}
	for _, p := range l.Procs {
		for _, f := range p.Fds {
			files[f]++
		}
		inodes[p.Cwd]++
		if zombie := p.State == api.ProcZombie; zombie != (p.Cwd == 0) || zombie && p.InCall {
			w.t.Fatalf("behind %s: %+v", behind, p)
		}
	}
	for _, f := range l.Files {
		if f.Refs != files[f.Num] || f.Refs < 1 {
			w.t.Fatalf("behind %s: open file %d has %d references, and is named %d times", behind, f.Num, f.Refs, files[f.Num])
		}
		inodes[f.Ino]++
	}
	for _, n := range l.Inodes {
		if n.Refs != inodes[n.Ino] || n.Refs == 0 && n.Links == 0 {
			w.t.Fatalf("behind %s: inode %d has %d references, and is named %d times", behind, n.Ino, n.Refs, inodes[n.Ino])
		}
	}
}

// checkSleepers is P15.17, told by Look alone: whoever sleeps has no reason not to.
func (w *world) checkSleepers(behind string, l api.OsLook) {
	w.t.Helper()
	pipes := map[int]api.PipeState{}
	for _, q := range l.Pipes {
		pipes[q.Num] = q.State
	}
	for _, p := range l.Procs {
		inVain := false
		switch p.Chan.Kind {
		case api.ChanChild:
			children := 0
			for _, child := range l.Procs {
				if child.Parent == p.Slot && child.Slot != p.Slot {
					children++
					inVain = inVain || child.State == api.ProcZombie
				}
			}
			inVain = inVain || children == 0 || p.Chan.N != p.Slot
		case api.ChanTime:
			inVain = p.Pending.Due <= l.Ticks
		case api.ChanConsole:
			inVain = len(l.Console.Ready) > 0
		case api.ChanRead:
			inVain = len(pipes[p.Chan.N].Bytes) > 0 || !pipes[p.Chan.N].Writer
		case api.ChanWrite:
			inVain = len(pipes[p.Chan.N].Bytes) < pipeSize || !pipes[p.Chan.N].Reader
		}
		if inVain {
			w.t.Fatalf("behind %s: slot %d sleeps in vain: %+v", behind, p.Slot, p)
		}
	}
}
