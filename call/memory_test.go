package call_test

// DOC.md, Memory: what is handed out is new; and P15.9.

import (
	"reflect"
	"testing"

	"hartix/api"
)

// busy is a system in which there is some of everything.
func busy(t *testing.T) *world {
	t.Helper()
	w := begin(t)
	w.gives(0, 0, api.SysPipe, stack)
	w.gives(5, 0, api.SysWrite, 4, stack, 5)
	w.gives(5, 0, api.SysOpen, w.path(0, "/d/f"), api.ORdwr)
	w.fork(0)
	w.fork(0)
	w.fork(1)
	w.sleepsOn(api.ChanWrite, 0, 1, api.SysWrite, 4, stack, 600)
	w.sleepsOn(api.ChanTime, 0, 0, api.SysSleep, 9)
	w.end(2, 5)
	w.tick()
	w.keys("ready\nline")
	return w
}

func TestLook(t *testing.T) {
	w := busy(t)
	l := w.o.Look()
	var slots, states []int
	for _, p := range l.Procs {
		slots, states = append(slots, p.Slot), append(states, p.State)
	}
	w.want("slots", slots, []int{0, 1, 2, 3})
	w.want("states", states, []int{api.ProcSleep, api.ProcSleep, api.ProcZombie, api.ProcRun})
	w.want("a write's Pending", l.Procs[1].Pending, api.Pending{Num: api.SysWrite, Args: [3]uint64{4, stack, 600}, Done: 507})
	w.want("a sleep's", []any{l.Procs[0].Pending.Num, l.Procs[0].Pending.Args[0], l.Procs[0].Pending.Due, l.Procs[0].Pending.Done}, []any{api.SysSleep, uint64(9), uint64(9), 0})
	z := l.Procs[2]
	for fd, f := range z.Fds {
		if f != -1 {
			t.Errorf("the zombie's descriptor %d is %d", fd, f)
		}
	}
	w.want("the zombie", []any{z.Cwd, z.InCall, z.Pending, z.Status, z.Size, len(z.Pages), len(z.Nodes)}, []any{0, false, api.Pending{}, int32(5), uint64(top), 3, 5})
	w.want("the others", []any{l.Tramp, l.Ticks, l.NextPid, l.Free}, []any{uint64(api.RamBase), uint64(1), 5, w.r.Count()})
	w.want("console", l.Console, api.ConsoleState{Ready: []byte("ready\n"), Line: []byte("line")})
	w.want("pipe", []any{len(l.Pipes), len(l.Pipes[0].State.Bytes), l.Pipes[0].Num}, []any{1, 512, 0})
	w.want("open files", []int{len(l.Files), l.Files[3].Num, l.Files[3].Ino, l.Files[3].Refs}, []int{4, 3, fIno, 3})
	w.want("inodes", len(l.Inodes), 9)
}

// spoil writes into every list of a look, spare room included.
func spoil(l api.OsLook) {
	for k := range l.Procs {
		nodes, pages := l.Procs[k].Nodes, l.Procs[k].Pages
		clear(nodes[:cap(nodes)])
		clear(pages[:cap(pages)])
	}
	for k := range l.Inodes {
		blocks := l.Inodes[k].Blocks
		clear(blocks[:cap(blocks)])
	}
	for k := range l.Pipes {
		b := l.Pipes[k].State.Bytes
		clear(b[:cap(b)])
	}
	clear(l.Console.Ready[:cap(l.Console.Ready)])
	clear(l.Console.Line[:cap(l.Console.Line)])
	clear(l.Procs[:cap(l.Procs)])
	clear(l.Files[:cap(l.Files)])
	clear(l.Inodes[:cap(l.Inodes)])
	clear(l.Pipes[:cap(l.Pipes)])
}

func TestLooksAreNew(t *testing.T) {
	w := busy(t)
	one, two := w.o.Look(), w.o.Look()
	spoil(one)
	w.check("a spoiled Look")
	if three := w.o.Look(); !reflect.DeepEqual(two, three) {
		t.Error("two looks share memory")
	}
}

// Of one answer no two lists share memory: what is put behind one's end is not seen in another.
func TestListsOfALookAreApart(t *testing.T) {
	w := busy(t)
	l, want := w.o.Look(), w.o.Look()
	for k := range l.Procs {
		_ = append(l.Procs[k].Nodes, 1, 2, 3)
		_ = append(l.Procs[k].Pages, api.PageLook{Page: 9}, api.PageLook{Page: 9})
	}
	for k := range l.Inodes {
		_ = append(l.Inodes[k].Blocks, 1, 2, 3)
	}
	_ = append(l.Console.Ready, "xxx"...)
	_ = append(l.Console.Line, "xxx"...)
	_ = append(l.Pipes[0].State.Bytes, "xxx"...)
	if !reflect.DeepEqual(l, want) {
		t.Error("they share memory")
	}
}

// A list without an element is nil.
func TestEmptyListsAreNil(t *testing.T) {
	w := begin(t)
	for fd := range uint64(3) {
		w.gives(0, 0, api.SysClose, fd)
	}
	w.gives(top, 0, api.SysSbrk, minus1-top+1)
	l := w.o.Look()
	if l.Files != nil || l.Pipes != nil || l.Console.Ready != nil || l.Console.Line != nil || l.Procs[0].Pages != nil || l.Inodes[1].Blocks != nil || w.o.Output() != nil {
		t.Errorf("%+v", l)
	}
}

// Two systems over two memories are apart.
func TestSystemsAreApart(t *testing.T) {
	one, two := begin(t), begin(t)
	one.fork(0)
	one.keys("x\n")
	one.tick()
	one.gives(0, 0, api.SysMkdir, one.path(0, "/new"))
	two.check("what was done in the other one")
}
