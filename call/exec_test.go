package call_test

// P15.11.

import (
	"bytes"
	"fmt"
	"strings"
	"testing"

	"hartix/api"
)

// address gives a number as it lies in memory.
func address(v uint64) []byte {
	b := make([]byte, 8)
	for k := range b {
		b[k] = byte(v >> (8 * k))
	}
	return b
}

// arguments lays arguments onto the stack, with their addresses from argv on, and a 0 behind them.
func (w *world) arguments(slot int, argv uint64, args ...string) uint64 {
	w.t.Helper()
	at := uint64(stack + 0x400)
	var addresses []byte
	for _, arg := range args {
		addresses = append(addresses, address(w.text(slot, at, arg))...)
		at += uint64(len(arg)) + 1
	}
	w.poke(slot, argv, append(addresses, address(0)...))
	return argv
}

const argvAt = stack + 0x203 // addresses need no multiple of 8

func TestExec(t *testing.T) {
	w := begin(t)
	w.gives(3, 0, api.SysOpen, w.path(0, "/d/f"), 0)
	w.gives(0, 0, api.SysChdir, w.path(0, "/d"))
	w.fork(0)
	free := w.r.Count()
	before := w.look(1)
	w.setRegs(1, full())
	next, a0 := w.ask(1, api.SysExec, w.path(1, "../long"), w.arguments(1, argvAt, "long", "", "three"))
	w.want("exec", []any{next, a0}, []any{api.NextUser, int64(3)})
	p := w.look(1)
	want := api.Regs{Pc: 4}
	want.X[2], want.X[10], want.X[11] = 0x5fb0, 3, 0x5fb0
	w.want("registers", p.Regs, want)
	w.want("size", []any{p.Size, len(p.Pages), w.r.Count()}, []any{uint64(0x6000), 6, free - 3})
	w.want("what stays", []any{p.Pid, p.Fds, p.Cwd, p.Frame, p.Parent, p.InCall}, []any{before.Pid, before.Fds, before.Cwd, before.Frame, before.Parent, false})
	w.want("rights", []uint64{p.Pages[0].Perm, p.Pages[1].Perm, p.Pages[4].Perm, p.Pages[5].Perm}, []uint64{mayFetch | isUsers, mayRead | mayWrite | isUsers, mayRead | mayWrite, mayRead | mayWrite | isUsers})
	w.want("data", string(w.in(1, page, 5)), "data\x00")
	w.want("addresses", w.in(1, 0x5fb0, 32), bytes.Join([][]byte{address(0x5ff0), address(0x5fe0), address(0x5fd0), address(0)}, nil))
	w.want("arguments", string(w.in(1, 0x5fd0, 48)), "three"+strings.Repeat("\x00", 27)+"long"+strings.Repeat("\x00", 12))
	w.want("the other one", w.look(0).Size, uint64(0x3000))
}

func TestExecWithoutArguments(t *testing.T) {
	w := begin(t)
	next, a0 := w.ask(0, api.SysExec, w.path(0, "/p"), w.arguments(0, argvAt))
	w.want("exec", []any{next, a0}, []any{api.NextUser, int64(0)})
	w.want("sp", w.look(0).Regs.X[2], uint64(0x2ff0))
}

// The addresses are fetched up to the 0, each from where the user can read.
func TestExecOfArgumentsThatAreNone(t *testing.T) {
	w := begin(t)
	path := w.path(0, "/p")
	for _, argv := range []uint64{guarded, guarded + 8, guarded - 4, top, top - 7, top - 4, stack - 1, 1 << 38, minus1, minus1 - 7} {
		w.nothing(0, api.SysExec, path, argv)
	}
	for _, q := range []uint64{guarded, top, 1 << 38, minus1, 1 << 63, guarded + 1} {
		for _, more := range []int{0, 1, 5} {
			w.arguments(0, argvAt, strings.Split(strings.Repeat("a ", more), " ")...)
			w.poke(0, argvAt+8*uint64(more), address(q))
			w.nothing(0, api.SysExec, path, argvAt)
		}
	}
	w.poke(0, top-16, append(address(path), address(path)...)) // up to the end of the page, without a 0
	w.nothing(0, api.SysExec, path, top-16)
	w.nothing(0, api.SysExec, path, top-8)
	w.poke(0, top-8, address(0))
	w.gives(1, 0, api.SysExec, path, top-16)
}

// An argument has at most 4095 bytes, and all of them must have room on the new stack.
func TestExecOfLongArguments(t *testing.T) {
	for _, c := range []struct {
		bytes int
		ok    bool
	}{{0, true}, {4063, true}, {4064, true}, {4079, true}, {4080, false}, {4095, false}, {4096, false}, {5000, false}} {
		w := begin(t)
		w.gives(0x3000, 0, api.SysSbrk, 4*page)
		path := w.path(0, "/p")
		w.text(0, top, strings.Repeat("x", c.bytes))
		w.poke(0, argvAt, append(address(top), address(0)...))
		if c.ok {
			w.gives(1, 0, api.SysExec, path, argvAt)
		} else {
			w.nothing(0, api.SysExec, path, argvAt)
		}
	}
}

func TestExecOfManyArguments(t *testing.T) {
	for _, n := range []int{1, 31, 32, 33, 34, 60} {
		w := begin(t)
		var args []string
		for k := range n {
			args = append(args, fmt.Sprint("arg", k))
		}
		path, argv := w.path(0, "/p"), w.arguments(0, argvAt, args...)
		if n > 32 {
			w.nothing(0, api.SysExec, path, argv)
			continue
		}
		w.gives(int64(n), 0, api.SysExec, path, argv)
	}
	w := begin(t) // the 33rd is not fetched, whatever its address is
	args := strings.Fields(strings.Repeat("a ", 33))
	path, argv := w.path(0, "/p"), w.arguments(0, argvAt, args...)
	w.poke(0, argv+8*32, address(guarded))
	w.nothing(0, api.SysExec, path, argv)
	w.poke(0, argv+8*32, address(0))
	w.gives(32, 0, api.SysExec, path, argv)
}

func TestExecOfWhatIsNoProgram(t *testing.T) {
	w := begin(t)
	argv := w.arguments(0, argvAt, "a")
	for _, path := range []string{"/none", "/d", "", "/", "/console", "/odd", "/bad", "/d/f", "/p/x", "."} {
		w.nothing(0, api.SysExec, w.path(0, path), argv)
	}
	w.gives(3, 0, api.SysOpen, w.path(0, "/empty"), api.OCreate)
	w.nothing(0, api.SysExec, w.path(0, "/empty"), argv)
	w.gives(1, 0, api.SysExec, w.path(0, "/p/"), argv)
}

// Its frames are asked while the old space is there: with one too few nothing is changed.
func TestExecWantsFrames(t *testing.T) {
	for _, path := range []string{"/p", "/long"} {
		demand := map[string]int{"/p": 3 + 5, "/long": 6 + 5}[path]
		for _, less := range []int{1, 0} {
			w := begin(t)
			w.leave(demand - less)
			argv := w.arguments(0, argvAt, "a")
			if less > 0 {
				w.nothing(0, api.SysExec, w.path(0, path), argv)
				continue
			}
			w.gives(1, 0, api.SysExec, w.path(0, path), argv)
			w.want("the old space is free", w.r.Count(), 8)
		}
	}
}

// A program that was written by a call is one like any other.
func TestExecOfAWrittenProgram(t *testing.T) {
	w := begin(t)
	w.gives(3, 0, api.SysOpen, w.path(0, "/mine"), api.OCreate|api.OWronly)
	w.poke(0, stack, smallest())
	w.gives(124, 0, api.SysWrite, 3, stack, 124)
	w.gives(0, 0, api.SysExec, w.path(0, "/mine"), w.arguments(0, argvAt))
	w.want("descriptors stay", w.look(0).Fds[3], 1)
}

// A whole life: fork, exec, exit, wait; behind it all frames are as before (W4).
func TestNothingLeaks(t *testing.T) {
	w := begin(t)
	free := w.r.Count()
	for k := range 20 {
		slot := w.fork(0)
		w.gives(0x3000, slot, api.SysSbrk, uint64(k)*3000)
		w.gives(0, slot, api.SysPipe, stack)
		if k%2 == 0 {
			w.gives(1, slot, api.SysExec, w.path(slot, "/long"), w.arguments(slot, argvAt, "x"))
			w.gives(0x6000, slot, api.SysSbrk, 5000)
		}
		w.sleepsOn(api.ChanChild, 0, 0, api.SysWait, stack)
		w.ask(slot, api.SysExit, uint64(k))
		w.goesOn(int64(k+2), 0)
		w.want("status", w.in(0, stack, 4), []byte{byte(k), 0, 0, 0})
		w.want("free", w.r.Count(), free)
	}
}
