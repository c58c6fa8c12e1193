package call_test

// P15.3, and what P15.4 says of every call.

import (
	"math"
	"testing"

	"hartix/api"
	"hartix/call"
)

// full gives registers that are all unlike.
func full() api.Regs {
	regs := api.Regs{Pc: 0x0102030405060708}
	for i := range regs.X {
		regs.X[i] = uint64(i)*0x1111111111111111 + 0x8000000000000000
	}
	return regs
}

func TestRegisters(t *testing.T) {
	w := begin(t)
	w.fork(0)
	w.setRegs(1, full())
	w.check("SetRegs")
	got, ok := w.o.Regs(1)
	want := full()
	want.X[0] = 0
	w.want("Regs", []any{got, ok}, []any{want, true})
	b, _ := w.r.Read(w.look(1).Frame, 24)
	w.want("Pc at 0, x1 at 8, x2 at 16, the low byte first", b, []byte{
		8, 7, 6, 5, 4, 3, 2, 1,
		0x11, 0x11, 0x11, 0x11, 0x11, 0x11, 0x11, 0x91,
		0x22, 0x22, 0x22, 0x22, 0x22, 0x22, 0x22, 0xa2,
	})
	for i := range 32 {
		one := api.Regs{}
		one.X[i] = math.MaxUint64
		w.setRegs(1, one)
		w.check("SetRegs of one")
	}
	w.setRegs(1, api.Regs{Pc: math.MaxUint64})
	w.check("SetRegs of Pc")
}

// They lie in RAM: what is stored in the trapframe is what is told.
func TestRegistersAreTheTrapframe(t *testing.T) {
	w := begin(t)
	frame := w.look(0).Frame
	w.r.Store(frame, 8, 0x1234)
	w.r.Store(frame+8*31, 8, 0x5678)
	regs, _ := w.o.Regs(0)
	w.want("Pc and x31", []uint64{regs.Pc, regs.X[31]}, []uint64{0x1234, 0x5678})
}

func TestRootIsTheSpaces(t *testing.T) {
	w := begin(t)
	w.fork(0)
	for slot := range 2 {
		pa, ok := w.o.Root(slot)
		w.want("Root", []any{pa, ok}, []any{w.look(slot).Root, true})
	}
	if a, b := w.look(0).Root, w.look(1).Root; a == b {
		t.Errorf("one root: %x", a)
	}
}

// A zombie has its registers and its root still.
func TestRegistersOfAZombie(t *testing.T) {
	w := begin(t)
	w.fork(0)
	w.setRegs(1, full())
	w.end(1, 3)
	w.setRegs(1, api.Regs{Pc: 12})
	w.check("SetRegs of a zombie")
	if _, ok := w.o.Root(1); !ok {
		t.Error("no root")
	}
}

// A call changes Pc and a0 alone, whatever the others have.
func TestACallChangesPcAndA0Alone(t *testing.T) {
	w := begin(t)
	regs := full()
	regs.X[17], regs.X[10], regs.X[11], regs.X[12] = api.SysGetpid, 5, 6, 7
	w.setRegs(0, regs)
	w.want("Call", w.call(0), api.NextUser)
	regs.Pc += 4
	regs.X[0], regs.X[10] = 0, 1
	w.want("the registers", w.look(0).Regs, regs)
}

func TestPcGoesRound(t *testing.T) {
	w := begin(t)
	regs := api.Regs{Pc: math.MaxUint64 - 1}
	regs.X[17] = api.SysUptime
	w.setRegs(0, regs)
	w.want("Call", w.call(0), api.NextUser)
	w.want("Pc", w.look(0).Regs.Pc, uint64(2))
}

// All 64 bits of the number count.
func TestNumbersThatAreNoCall(t *testing.T) {
	w := begin(t)
	for _, number := range []uint64{0, 22, 23, 64, 100, 255, 256, 256 + 1, 1<<16 + 11, 1 << 31, 1<<31 + 1, 1<<32 - 1, 1 << 32, 1<<63 | 2, math.MaxUint64, math.MaxUint64 - 20} {
		w.nothing(0, number, 0, 0, 0)
		w.nothing(0, number, stack, stack, 1)
	}
	for number := uint64(1); number <= 21; number++ {
		for _, high := range []uint64{1 << 32, 1 << 33, 1 << 63, math.MaxUint32 << 32} {
			w.nothing(0, high|number, 0, stack, 1)
		}
	}
}

// An int is the lowest 32 bits, with their sign.
func TestIntArguments(t *testing.T) {
	w := begin(t)
	w.fork(0)
	w.gives(0, 0, api.SysSleep, 1<<32)
	w.gives(0, 0, api.SysSleep, 1<<31)
	w.gives(3, 0, api.SysDup, 1<<32)
	w.gives(4, 0, api.SysDup, 0xABCDEF01<<32|3)
	w.nothing(0, api.SysDup, 1<<31)
	w.gives(0x3000, 0, api.SysSbrk, 1<<32)
	w.gives(0x3000, 0, api.SysSbrk, 1<<32+5)
	w.gives(0x3005, 0, api.SysSbrk, 1<<32-5)
	w.gives(0, 0, api.SysKill, 1<<40+2)
	next, _ := w.ask(0, api.SysExit, 1<<32+0xFFFFFFF0)
	status, over := w.o.Ended()
	w.want("exit", []any{next, status, over}, []any{api.NextGone, int32(-16), true})
}

// A killed process ends in whatever it asks for, ahead of its call.
func TestKilledEndsAheadOfItsCall(t *testing.T) {
	for _, number := range []uint64{api.SysGetpid, api.SysFork, api.SysExit, api.SysWrite, 99} {
		w := begin(t)
		w.fork(0)
		w.gives(0, 1, api.SysKill, 2) // by itself
		inCall, killed := w.o.Doing(1)
		w.want("Doing", []bool{inCall, killed}, []bool{false, true})
		pc := w.look(1).Regs.Pc
		next, _ := w.ask(1, number, 1, stack, 1)
		p := w.look(1)
		w.want("what came of it", []any{next, p.State, p.Status, p.Killed, p.Regs.Pc}, []any{api.NextGone, api.ProcZombie, int32(-1), true, pc})
		inCall, killed = w.o.Doing(1)
		w.want("Doing of the zombie", []bool{inCall, killed}, []bool{false, true})
	}
}

// Call and GoOn of those who can't: 0, and nothing is done.
func TestCallsOfThoseWhoCant(t *testing.T) {
	w := begin(t)
	w.fork(0)
	w.fork(0)
	w.end(2, 9)
	w.gives(0, 1, api.SysPipe, stack)
	w.sleepsOn(api.ChanRead, 0, 1, api.SysRead, 3, stack, 1)
	for _, slot := range []int{math.MinInt, -1, 1, 2, 3, 63, 64, math.MaxInt} { // none, asleep, a zombie, free
		w.want("Call", w.call(slot), 0)
		w.want("GoOn", w.goOn(slot), 0)
	}
	w.want("GoOn of one in no call", w.goOn(0), 0)
	w.gives(0, 0, api.SysKill, 2)
	w.want("Call of one in a call", w.call(1), 0)
	w.want("GoOn", w.goOn(1), api.NextGone)
}

func TestSlotsThatAreNone(t *testing.T) {
	w := begin(t)
	for _, slot := range []int{math.MinInt, -64, -1, 1, 5, 63, 64, 65, 256, 1 << 32, math.MaxInt} {
		regs, ok := w.o.Regs(slot)
		pa, isProcess := w.o.Root(slot)
		inCall, killed := w.o.Doing(slot)
		set := w.o.SetRegs(slot, full())
		w.want("of no slot", []any{regs, ok, pa, isProcess, inCall, killed, set}, []any{api.Regs{}, false, uint64(0), false, false, false, false})
		w.end(slot, 5)
	}
}

// Of a system that New did not give.
func TestSystemsThatAreNone(t *testing.T) {
	for _, o := range []*call.Os{nil, {}} {
		for _, slot := range []int{-1, 0, 1, 63, 64} {
			o.End(slot, 1)
			o.Tick()
			o.Type('a')
			o.Type('\n')
			regs, ok := o.Regs(slot)
			pa, isProcess := o.Root(slot)
			inCall, killed := o.Doing(slot)
			picked, any := o.Pick(slot)
			status, over := o.Ended()
			if o.Call(slot) != 0 || o.GoOn(slot) != 0 || o.SetRegs(slot, full()) || ok || isProcess || inCall || killed || any || over {
				t.Errorf("slot %d: something else than zero", slot)
			}
			if regs != (api.Regs{}) || pa != 0 || picked != 0 || status != 0 || o.Output() != nil {
				t.Errorf("slot %d: %+v, %x, %d, %d", slot, regs, pa, picked, status)
			}
			if l := o.Look(); l.Tramp != 0 || l.Procs != nil || l.Files != nil || l.Inodes != nil || l.Pipes != nil || l.Console.Ready != nil || l.Console.Line != nil || l.Ticks != 0 || l.NextPid != 0 || l.Free != 0 {
				t.Errorf("%+v", l)
			}
		}
	}
}
