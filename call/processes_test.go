package call_test

// The rows fork, exit, wait, kill, getpid, sbrk, sleep, uptime, and P15.6.

import (
	"bytes"
	"math"
	"testing"

	"hartix/api"
)

func TestForkCopies(t *testing.T) {
	w := begin(t)
	w.poke(0, stack, bytes.Repeat([]byte("stack"), 100))
	w.poke(0, guarded, []byte("guard"))
	w.gives(0x3000, 0, api.SysSbrk, 5000)
	w.gives(0, 0, api.SysChdir, w.path(0, "/d"))
	w.gives(3, 0, api.SysOpen, w.path(0, "f"), api.ORdwr)
	w.gives(5, 0, api.SysRead, 3, stack, 5)
	w.gives(0, 0, api.SysPipe, stack)
	w.gives(0, 0, api.SysClose, 1)
	regs := full()
	regs.X[17] = api.SysFork
	w.setRegs(0, regs)
	w.want("fork", w.call(0), api.NextUser)
	parent, child := w.look(0), w.look(1)
	w.want("pids", []uint64{parent.Regs.X[10], child.Regs.X[10], uint64(child.Pid)}, []uint64{2, 0, 2})
	parent.Regs.X[10] = 0
	w.want("registers", child.Regs, parent.Regs)
	w.want("the child", []any{child.Parent, child.State, child.Fds, child.Cwd, child.Size, child.InCall}, []any{0, api.ProcRun, parent.Fds, dIno, uint64(0x3000 + 5000), false})
	w.want("memory", w.bytesOf(1), w.bytesOf(0))
	w.want("the guard page", child.Pages[1].Perm, uint64(mayRead|mayWrite))
	for _, f := range w.o.Look().Files {
		if want := map[int]int{0: 4}[f.Num]; f.Refs != max(want, 2) {
			t.Errorf("%+v", f)
		}
	}
}

// P15.16: what one writes, the other does not see; what both have open, both do.
func TestParentAndChildAreApart(t *testing.T) {
	w := begin(t)
	w.gives(3, 0, api.SysOpen, w.path(0, "/d/f"), 0)
	w.fork(0)
	w.gives(5, 1, api.SysRead, 3, stack+64, 5)
	w.want("the child's bytes", string(w.in(1, stack+64, 5)), "hello")
	w.want("the parent's bytes", w.in(0, stack+64, 5), make([]byte, 5))
	w.gives(7, 0, api.SysRead, 3, stack+64, 100) // one offset
	w.want("the parent's bytes", string(w.in(0, stack+64, 7)), ", world")
	w.gives(0, 1, api.SysClose, 3)
	w.gives(0, 1, api.SysChdir, w.path(1, "/d"))
	w.gives(0x3000, 1, api.SysSbrk, 4096)
	w.want("the parent", []any{w.look(0).Fds[3], w.look(0).Cwd, w.look(0).Size}, []any{1, root, uint64(0x3000)})
	w.nothing(1, api.SysRead, 3, stack, 1)
	w.gives(0, 0, api.SysRead, 3, stack, 1)
}

func TestForkTakesTheLeastSlot(t *testing.T) {
	w := begin(t)
	for k := 1; k <= 4; k++ {
		w.want("slot", w.fork(0), k)
	}
	w.end(3, 0)
	w.gives(4, 0, api.SysWait, 0)
	w.end(1, 0)
	w.gives(2, 0, api.SysWait, 0)
	w.want("slot", w.fork(2), 1)
	w.want("its parent", []int{w.look(1).Parent, w.look(1).Pid}, []int{2, 6})
	w.want("slot", w.fork(0), 3)
	w.want("slot", w.fork(0), 5)
}

func TestForkOfAllSlots(t *testing.T) {
	w := beginWith(t, 700)
	for k := 1; k < 64; k++ {
		w.want("slot", w.fork(k-1), k)
	}
	w.nothing(0, api.SysFork)
	w.nothing(63, api.SysFork)
	w.end(40, 0)
	w.nothing(0, api.SysFork) // a zombie holds its slot
	w.gives(41, 39, api.SysWait, 0)
	w.gives(65, 7, api.SysFork)
	w.want("its parent", w.look(40).Parent, 7)
}

// forkWants leaves one frame too few, and then just enough.
func forkWants(t *testing.T, frames, pages int) {
	t.Helper()
	for _, less := range []int{1, 0} {
		w := beginWith(t, frames)
		w.gives(0x3000, 0, api.SysSbrk, uint64((pages-3)*page))
		w.want("pages", len(w.look(0).Pages), pages)
		demand := 1 + pages + nodesOf(pages)
		w.leave(demand - less)
		if less > 0 {
			w.nothing(0, api.SysFork)
			continue
		}
		w.fork(0)
		w.want("free", w.r.Count(), 0)
		w.end(1, 0)
		w.gives(2, 0, api.SysWait, 0)
		w.want("free", w.r.Count(), demand)
	}
}

func TestForkWantsFrames(t *testing.T) {
	for _, pages := range []int{3, 4, 10} {
		forkWants(t, 100, pages)
	}
	forkWants(t, 1100, 512)
	forkWants(t, 1100, 513)
}

func TestForkWithoutPages(t *testing.T) {
	w := begin(t)
	w.gives(0x3000, 0, api.SysSbrk, minus1-0x2FFF)
	w.want("pages", w.look(0).Pages, []api.PageLook(nil))
	w.leave(4)
	w.fork(0)
	w.want("free", w.r.Count(), 0)
	w.nothing(0, api.SysFork)
}

func TestExit(t *testing.T) {
	for _, status := range []int32{0, 1, 255, 256, -1, math.MaxInt32, math.MinInt32} {
		w := begin(t)
		w.fork(0)
		next, _ := w.ask(1, api.SysExit, uint64(int64(status)))
		p := w.look(1)
		w.want("exit", []any{next, p.State, p.Status, p.Killed}, []any{api.NextGone, api.ProcZombie, status, false})
		if _, over := w.o.Ended(); over {
			t.Error("the first process has not ended")
		}
		w.gives(2, 0, api.SysWait, stack+1)
		b := w.in(0, stack+1, 4)
		w.want("the status", int32(uint32(b[0])|uint32(b[1])<<8|uint32(b[2])<<16|uint32(b[3])<<24), status)
		next, _ = w.ask(0, api.SysExit, uint64(int64(status)))
		got, over := w.o.Ended()
		w.want("the first", []any{next, got, over}, []any{api.NextGone, status, true})
	}
}

func TestWaitTakesTheLeastSlot(t *testing.T) {
	w := begin(t)
	free := w.r.Count()
	for range 4 {
		w.fork(0)
	}
	w.fork(2)
	w.end(4, 4)
	w.end(3, 3)
	w.end(5, 5) // another one's child
	w.gives(4, 0, api.SysWait, stack)
	w.want("status", w.in(0, stack, 4), []byte{3, 0, 0, 0})
	w.gives(5, 0, api.SysWait, stack)
	w.want("status", w.in(0, stack, 4), []byte{4, 0, 0, 0})
	w.sleepsOn(api.ChanChild, 0, 0, api.SysWait, stack)
	w.gives(6, 2, api.SysWait, 0)
	w.nothing(2, api.SysWait, 0)
	w.nothing(1, api.SysWait, 0)
	w.end(2, 2)
	w.goesOn(3, 0)
	w.sleepsOn(api.ChanChild, 0, 0, api.SysWait, 0)
	w.want("GoOn of one who sleeps", w.goOn(0), 0)
	w.end(1, 1)
	w.goesOn(2, 0)
	w.want("free", w.r.Count(), free)
}

// Where the status can't be written the child stays.
func TestWaitThatCantWrite(t *testing.T) {
	w := begin(t)
	w.fork(0)
	w.end(1, -2)
	for _, p := range []uint64{code, code + 1, guarded, guarded + 4095, stack - 1, stack - 3, top - 3, top - 1, top, 1 << 38, 1<<38 - page, minus1, minus1 - 3} {
		if p != 0 {
			w.nothing(0, api.SysWait, p)
		}
	}
	w.gives(2, 0, api.SysWait, top-4)
	w.want("status", w.in(0, top-4, 4), []byte{0xFE, 0xFF, 0xFF, 0xFF})

	w.fork(0)
	w.sleepsOn(api.ChanChild, 0, 0, api.SysWait, guarded)
	w.end(1, 0)
	w.goesOn(-1, 0)
	w.want("the child", w.look(1).State, api.ProcZombie)
	w.gives(3, 0, api.SysWait, 0) // p 0: nothing is written
}

// While it sleeps, its registers may say what they like: the call is the one that it was.
func TestGoingOnKeepsItsArguments(t *testing.T) {
	w := begin(t)
	w.fork(0)
	w.sleepsOn(api.ChanChild, 0, 0, api.SysWait, stack+8, 77, 88)
	w.want("Pending", w.look(0).Pending, api.Pending{Num: api.SysWait, Args: [3]uint64{stack + 8, 77, 88}})
	regs := full()
	w.setRegs(0, regs)
	w.end(1, 6)
	w.goesOn(2, 0)
	w.want("status", w.in(0, stack+8, 1), []byte{6})
	regs.X[0], regs.X[10] = 0, 2
	w.want("registers", w.look(0).Regs, regs)
	w.want("Pending", []any{w.look(0).Pending, w.look(0).InCall}, []any{api.Pending{}, false})
}

func TestKill(t *testing.T) {
	w := begin(t)
	w.fork(0)
	w.fork(0)
	w.fork(0)
	for _, pid := range []uint64{0, 5, 100, minus1, 1 << 31, math.MaxInt32, minus1 - 1} {
		w.nothing(0, api.SysKill, pid)
	}
	w.end(3, 8)
	w.gives(0, 0, api.SysKill, 4) // a zombie: nothing becomes of it
	w.want("the zombie", []any{w.look(3).Killed, w.look(3).Status}, []any{false, int32(8)})
	w.gives(4, 0, api.SysWait, 0)
	w.nothing(0, api.SysKill, 4)
	w.gives(0, 2, api.SysKill, 2)
	w.want("killed", []any{w.look(1).Killed, w.look(1).State}, []any{true, api.ProcRun})
	w.gives(0, 2, api.SysKill, 2) // again
	w.gives(0, 2, api.SysKill, 1)
	w.want("the first", w.look(0).Killed, true)
	next, _ := w.ask(0, api.SysGetpid)
	status, over := w.o.Ended()
	w.want("it ends", []any{next, status, over}, []any{api.NextGone, int32(-1), true})
}

// Whatever a process sleeps on, killed it can run, and ends when it goes on.
func TestKillWakes(t *testing.T) {
	for _, c := range []struct {
		kind int
		call []uint64
	}{
		{api.ChanChild, []uint64{api.SysWait, 0, 0, 0}},
		{api.ChanTime, []uint64{api.SysSleep, 100, 0, 0}},
		{api.ChanConsole, []uint64{api.SysRead, 0, stack, 1}},
		{api.ChanRead, []uint64{api.SysRead, 3, stack, 1}},
		{api.ChanWrite, []uint64{api.SysWrite, 4, stack, 600}},
	} {
		w := begin(t)
		w.fork(0)
		w.fork(1)
		w.gives(0, 1, api.SysPipe, stack)
		n := 0
		w.ask(1, c.call[0], c.call[1], c.call[2], c.call[3])
		if c.kind == api.ChanChild {
			n = 1
		}
		w.mustSleep(api.NextSleep, 1, c.kind, n)
		w.gives(0, 0, api.SysKill, 2)
		w.want("it can run", w.canRun(1), true)
		w.want("Call", w.call(1), 0)
		w.want("GoOn", w.goOn(1), api.NextGone)
		w.want("status", w.look(1).Status, int32(-1))
	}
}

func TestGetpid(t *testing.T) {
	w := begin(t)
	w.fork(0)
	w.fork(1)
	for slot := range 3 {
		w.gives(int64(slot+1), slot, api.SysGetpid)
	}
}

func TestSbrk(t *testing.T) {
	w := begin(t)
	free := w.r.Count()
	w.gives(0x3000, 0, api.SysSbrk, 0)
	w.gives(0x3000, 0, api.SysSbrk, 1)
	w.want("pages", len(w.look(0).Pages), 4)
	w.poke(0, top, bytes.Repeat([]byte{9}, page))
	w.gives(0x3001, 0, api.SysSbrk, 100) // the bytes behind the size are 0 again
	w.want("bytes", w.in(0, top, 8), []byte{9, 0, 0, 0, 0, 0, 0, 0})
	w.want("free", w.r.Count(), free-1)
	w.gives(0x3065, 0, api.SysSbrk, minus1-0x64)
	w.want("size", []any{w.look(0).Size, len(w.look(0).Pages), w.r.Count()}, []any{uint64(0x3000), 3, free})
	w.gives(0x3000, 0, api.SysSbrk, 3*page)
	w.want("rights", w.look(0).Pages[5].Perm, uint64(mayRead|mayWrite|isUsers))
	w.gives(2, 0, api.SysWrite, 1, top+3*page-2, 2) // they can be read
	w.want("printed", w.o.Output(), []byte{0, 0})
	w.gives(0, 0, api.SysPipe, top+3*page-8) // and written
}

// Below 0 nothing is done; to 0 all pages go, and they come again as any.
func TestSbrkDown(t *testing.T) {
	w := begin(t)
	free := w.r.Count()
	for _, n := range []int64{-0x3001, -0x4000, math.MinInt32} {
		w.nothing(0, api.SysSbrk, uint64(n))
	}
	w.gives(0x3000, 0, api.SysSbrk, minus1-0x1FFE) // -1FFFH: within the guard page
	w.want("pages", len(w.look(0).Pages), 2)
	w.gives(0x1001, 0, api.SysSbrk, 0xFFF)
	w.want("the guard page stays what it is", w.look(0).Pages[1].Perm, uint64(mayRead|mayWrite))
	w.gives(0x2000, 0, api.SysSbrk, minus1-0x1FFF)
	w.want("nothing is left", []any{w.look(0).Size, w.look(0).Pages, w.r.Count()}, []any{uint64(0), []api.PageLook(nil), free + 5})
	w.nothing(0, api.SysSbrk, minus1)
	w.gives(0, 0, api.SysSbrk, 0x2000)
	w.want("rights", w.look(0).Pages[1].Perm, uint64(mayRead|mayWrite|isUsers))
}

// All numbers of free frames: it is refused just where pages and nodes that come are more.
func TestSbrkWantsFrames(t *testing.T) {
	for _, c := range []struct{ frames, from, to int }{{60, 3, 4}, {60, 3, 10}, {60, 0, 1}, {60, 0, 5}, {600, 512, 513}, {600, 511, 512}, {600, 3, 513}} {
		demand := c.to - c.from + nodesOf(c.to) - nodesOf(c.from)
		for _, less := range []int{1, 0} {
			w := beginWith(t, c.frames)
			w.gives(0x3000, 0, api.SysSbrk, uint64(int64(c.from-3)*page))
			w.leave(demand - less)
			if less > 0 {
				w.nothing(0, api.SysSbrk, uint64((c.to-c.from)*page))
				w.nothing(0, api.SysSbrk, uint64((c.to-c.from)*page-1))
				continue
			}
			w.gives(int64(c.from)*page, 0, api.SysSbrk, uint64((c.to-c.from)*page))
			w.want("free", w.r.Count(), 0)
		}
	}
	w := begin(t)
	w.leave(0)
	w.gives(0x3000, 0, api.SysSbrk, 0)
	w.nothing(0, api.SysSbrk, 1)
	w.nothing(0, api.SysSbrk, math.MaxInt32)
	w.gives(0x3000, 0, api.SysSbrk, minus1)
	w.gives(0x2FFF, 0, api.SysSbrk, 1) // no page comes
}

func TestSleep(t *testing.T) {
	w := begin(t)
	w.tick()
	for _, n := range []uint64{0, minus1, 1 << 31, minus1 - 5} {
		w.gives(0, 0, api.SysSleep, n)
	}
	for range 4 {
		w.fork(0)
	}
	for slot, n := range []uint64{3, 1, 2, 1, math.MaxInt32} {
		w.sleepsOn(api.ChanTime, 0, slot, api.SysSleep, n, 5, 6)
		w.want("Pending", w.look(slot).Pending, api.Pending{Num: api.SysSleep, Args: [3]uint64{n, 5, 6}, Due: 1 + n})
	}
	awake := func() (all []int) {
		for slot := range 5 {
			if w.canRun(slot) {
				all = append(all, slot)
			}
		}
		return all
	}
	w.want("awake", awake(), []int(nil))
	w.tick()
	w.want("awake", awake(), []int{1, 3})
	w.goesOn(0, 1)
	w.tick()
	w.want("awake", awake(), []int{1, 2, 3})
	w.goesOn(0, 3) // one tick late
	w.sleepsOn(api.ChanTime, 0, 3, api.SysSleep, 1)
	w.tick()
	w.want("awake", awake(), []int{0, 1, 2, 3})
	for _, slot := range []int{0, 2, 3} {
		w.goesOn(0, slot)
	}
	w.gives(4, 0, api.SysUptime)
}

// Ticks wake nobody who sleeps on something else.
func TestTicksWakeSleepersAlone(t *testing.T) {
	w := begin(t)
	w.fork(0)
	w.sleepsOn(api.ChanChild, 0, 0, api.SysWait, 0)
	w.sleepsOn(api.ChanConsole, 0, 1, api.SysRead, 0, stack, 1)
	for range 5 {
		w.tick()
	}
	_, any := w.o.Pick(0)
	w.want("somebody can run", any, false)
	w.keys("\n")
	w.goesOn(1, 1)
	w.gives(5, 1, api.SysUptime)
}

func TestEndOfAParent(t *testing.T) {
	w := begin(t)
	for _, parent := range []int{0, 1, 1, 0, 1} { // slots 1 to 5
		w.fork(parent)
	}
	w.end(3, 33)
	w.sleepsOn(api.ChanChild, 0, 0, api.SysWait, stack)
	w.end(5, 55)
	w.want("the first still sleeps", w.canRun(0), false)
	w.end(1, 11) // its children 2, 3 and 5 are the first one's now
	w.want("parents", []int{w.look(2).Parent, w.look(3).Parent, w.look(4).Parent, w.look(5).Parent}, []int{0, 0, 0, 0})
	w.goesOn(2, 0)
	w.gives(4, 0, api.SysWait, stack)
	w.want("status", w.in(0, stack, 1), []byte{33})
	w.gives(6, 0, api.SysWait, stack)
	w.sleepsOn(api.ChanChild, 0, 0, api.SysWait, 0)
}

// A zombie that comes to the first process by its parent's end wakes it, though that parent is another one's child.
func TestZombieThatComesToTheFirst(t *testing.T) {
	w := begin(t)
	w.fork(0)
	w.fork(1)
	w.fork(2)
	w.end(3, 3)
	w.sleepsOn(api.ChanChild, 0, 0, api.SysWait, 0)
	w.sleepsOn(api.ChanChild, 1, 1, api.SysWait, 0)
	w.end(2, 2)
	w.want("both can run", []bool{w.canRun(0), w.canRun(1)}, []bool{true, true})
	w.goesOn(4, 0)
	w.goesOn(3, 1)
}

// A living child that comes to the first process wakes nobody; its end does.
func TestChildThatComesToTheFirst(t *testing.T) {
	w := begin(t)
	w.fork(0)
	w.fork(1)
	w.fork(2)
	w.sleepsOn(api.ChanChild, 0, 0, api.SysWait, 0)
	w.end(2, 2)
	w.want("it sleeps", w.canRun(0), false)
	w.end(3, 3)
	w.goesOn(4, 0)
}

func TestEndOfTheFirst(t *testing.T) {
	w := begin(t)
	w.fork(0)
	w.fork(1)
	w.end(0, 9)
	status, over := w.o.Ended()
	w.want("Ended", []any{status, over}, []any{int32(9), true})
	w.want("its child stays its own", w.look(1).Parent, 0)
	w.end(0, 10) // of a zombie: nothing
	w.end(1, 1)
	w.end(1, 2)
	w.want("status", []int32{w.look(0).Status, w.look(1).Status}, []int32{9, 1})
	w.want("parents", []int{w.look(1).Parent, w.look(2).Parent}, []int{0, 0})
	w.fork(2)
	w.gives(3, 2, api.SysGetpid)
}

// What a process holds is let go with it: pipes are shut, who waits at them is woken, a file and a directory without a name are gone.
func TestEndLetsGo(t *testing.T) {
	w := begin(t)
	w.gives(0, 0, api.SysPipe, stack)
	w.fork(0)
	w.gives(0, 1, api.SysClose, 3)
	w.gives(0, 0, api.SysClose, 4)
	w.gives(0, 1, api.SysMkdir, w.path(1, "/e"))
	w.gives(0, 1, api.SysChdir, w.path(1, "/e"))
	w.gives(3, 1, api.SysOpen, w.path(1, "/new"), api.OCreate|api.ORdwr)
	w.gives(1000, 1, api.SysWrite, 3, stack, 1000)
	w.gives(0, 1, api.SysUnlink, w.path(1, "/new"))
	w.gives(0, 1, api.SysUnlink, w.path(1, "/e"))
	inodes := len(w.o.Look().Inodes)
	w.sleepsOn(api.ChanRead, 0, 0, api.SysRead, 3, stack, 4)
	w.end(1, 0)
	w.want("inodes", len(w.o.Look().Inodes), inodes-2)
	w.goesOn(0, 0)
	w.want("the zombie", []any{w.look(1).Fds[0], w.look(1).Fds[3], w.look(1).Cwd}, []any{-1, -1, 0})
}

// One who sleeps is ended as any other, whatever it sleeps on.
func TestEndOfASleeper(t *testing.T) {
	w := begin(t)
	w.fork(0)
	w.gives(0, 1, api.SysPipe, stack)
	w.sleepsOn(api.ChanWrite, 0, 1, api.SysWrite, 4, stack, 513)
	w.end(1, 4)
	p := w.look(1)
	w.want("the zombie", []any{p.State, p.Chan, p.InCall, p.Pending, p.Status}, []any{api.ProcZombie, api.Chan{}, false, api.Pending{}, int32(4)})
	w.want("GoOn", w.goOn(1), 0)
	w.want("pipes", w.o.Look().Pipes, []api.PipeLook(nil))
	w.gives(2, 0, api.SysWait, 0)
}

func TestPick(t *testing.T) {
	w := begin(t)
	for range 3 {
		w.fork(0)
	}
	w.sleepsOn(api.ChanTime, 0, 2, api.SysSleep, 1)
	for _, c := range []struct{ last, want int }{{0, 1}, {1, 3}, {2, 3}, {3, 0}, {63, 0}, {64, 0}, {-1, 0}, {math.MinInt, 0}, {math.MaxInt, 0}, {40, 0}} {
		slot, ok := w.o.Pick(c.last)
		w.want("Pick", []any{slot, ok}, []any{c.want, true})
	}
	w.end(0, 0)
	w.end(1, 0)
	w.end(3, 0)
	slot, ok := w.o.Pick(2)
	w.want("nobody can run", []any{slot, ok}, []any{0, false})
	w.tick()
	slot, ok = w.o.Pick(2)
	w.want("it alone can", []any{slot, ok}, []any{2, true})
}
