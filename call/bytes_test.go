package call_test

// P15.10: read and write, and what P15.7 says of the console.

import (
	"bytes"
	"math"
	"strings"
	"testing"

	"hartix/api"
)

// badOut are addresses at which 4 bytes can't be written; badIn those at which they can't be read.
func badOut() []uint64 {
	return append(badIn(), 0, code, code+2000, guarded-4, guarded-2)
}

func badIn() []uint64 {
	return []uint64{guarded, guarded + 5, guarded - 3, stack - 4, stack - 1, top - 3, top, top + 4, 1 << 30, 1<<38 - page, 1<<38 - 2*page, 1 << 38, 1 << 63, minus1 - 3, minus1}
}

// noNumbers are values of n that are below 0.
func noNumbers() []uint64 { return []uint64{minus1, 1 << 31, 1<<32 - 1, minus1 - 100} }

func TestReadOfAFile(t *testing.T) {
	w := begin(t)
	w.gives(3, 0, api.SysOpen, w.path(0, "/d/f"), 0)
	for _, at := range badOut() {
		w.nothing(0, api.SysRead, 3, at, 4)
	}
	for _, n := range noNumbers() {
		w.nothing(0, api.SysRead, 3, stack, n)
	}
	for _, at := range append(badOut(), stack) {
		w.gives(0, 0, api.SysRead, 3, at, 0) // of n 0 p may be anything
		w.gives(0, 0, api.SysRead, 3, at, 1<<32)
	}
	w.gives(5, 0, api.SysRead, 3, top-5, 5)
	w.want("bytes", string(w.in(0, top-5, 5)), "hello")
	w.nothing(0, api.SysRead, 3, top-6, 100) // seven bytes are left
	w.gives(7, 0, api.SysRead, 3, top-7, math.MaxInt32)
	w.want("bytes", string(w.in(0, top-7, 7)), ", world")
	for _, at := range append(badOut(), stack) {
		w.gives(0, 0, api.SysRead, 3, at, 100) // nothing is left: nothing is written
	}
	w.want("offset", w.o.Look().Files[1].Off, 12)
}

func TestReadOfADirectory(t *testing.T) {
	w := begin(t)
	w.gives(3, 0, api.SysOpen, w.path(0, "/d"), 0)
	w.gives(48, 0, api.SysRead, 3, stack+100, 4000)
	w.want("entries", string(w.in(0, stack+100, 48)), "\x06\x00."+strings.Repeat("\x00", 13)+"\x01\x00.."+strings.Repeat("\x00", 12)+"\x07\x00f"+strings.Repeat("\x00", 13))
	w.gives(0, 0, api.SysRead, 3, stack, 1)
	w.gives(4, 0, api.SysOpen, w.path(0, "/d"), 0)
	w.gives(0, 0, api.SysUnlink, w.path(0, "/d/f"))
	w.gives(0, 0, api.SysUnlink, w.path(0, "/d"))
	w.gives(0, 0, api.SysRead, 3, stack, 4) // it is gone: its bytes too
	w.gives(0, 0, api.SysRead, 4, stack, 4)
	w.nothing(0, api.SysWrite, 4, stack, 4)
	w.nothing(0, api.SysWrite, 4, stack, 0)
}

// A cut file has nothing from the offset on, and can't be written there.
func TestReadAndWriteBehindTheEnd(t *testing.T) {
	w := begin(t)
	w.gives(3, 0, api.SysOpen, w.path(0, "/d/f"), api.ORdwr)
	w.gives(9, 0, api.SysRead, 3, stack, 9)
	w.gives(4, 0, api.SysOpen, w.path(0, "/d/f"), api.ORdwr|api.OTrunc)
	w.gives(0, 0, api.SysRead, 3, guarded, 5)
	w.nothing(0, api.SysWrite, 3, stack, 5)
	w.nothing(0, api.SysWrite, 3, stack, 0)
	w.gives(8, 0, api.SysWrite, 4, stack, 8)
	w.nothing(0, api.SysWrite, 3, stack, 0)
	w.gives(1, 0, api.SysWrite, 4, stack, 1)
	w.gives(0, 0, api.SysWrite, 3, guarded, 0) // the offset is the size again
	w.gives(2, 0, api.SysWrite, 3, stack, 2)
}

func TestWriteOfAFile(t *testing.T) {
	w := begin(t)
	w.gives(3, 0, api.SysOpen, w.path(0, "/d/f"), api.ORdwr)
	for _, at := range badIn() {
		w.nothing(0, api.SysWrite, 3, at, 4)
	}
	for _, n := range append(noNumbers(), 5000, math.MaxInt32) {
		w.nothing(0, api.SysWrite, 3, stack, n)
	}
	w.poke(0, stack, []byte("HELLO"))
	w.gives(4, 0, api.SysWrite, 3, stack, 4)
	w.gives(4, 0, api.SysWrite, 3, code, 4) // what can be read need not be writable
	w.want("bytes", string(contents(w.m.x, fIno)), "HELLs\x00\x00\x00orld")
	w.gives(4096, 0, api.SysWrite, 3, stack, 4096)
	w.want("offset", w.o.Look().Files[1].Off, 4104)
	w.gives(0, 0, api.SysWrite, 3, minus1, 0)
}

// As many bytes as there are frames for; -1, if that is none.
func TestWriteWantsFrames(t *testing.T) {
	w := begin(t)
	w.gives(0x3000, 0, api.SysSbrk, 20*page)
	w.poke(0, top, bytes.Repeat([]byte("0123456789"), 4000))
	w.gives(3, 0, api.SysOpen, w.path(0, "/new"), api.OCreate|api.ORdwr)
	w.leave(3)
	w.gives(5000, 0, api.SysWrite, 3, top, 5000)
	w.gives(3*page-5000, 0, api.SysWrite, 3, top, 20000)
	w.nothing(0, api.SysWrite, 3, top, 1)
	w.gives(0, 0, api.SysWrite, 3, top, 0)
	w.want("offset", w.o.Look().Files[1].Off, 3*page)
	w.gives(4, 0, api.SysOpen, w.path(0, "/new"), api.ORdwr)
	w.gives(3*page, 0, api.SysWrite, 4, top, 20000) // blocks that are there can be written
	w.nothing(0, api.SysWrite, 4, top, 20000)
}

func TestWriteUpToTheLongestFile(t *testing.T) {
	w := beginWith(t, 200)
	w.gives(0x3000, 0, api.SysSbrk, 70*page)
	w.gives(3, 0, api.SysOpen, w.path(0, "/new"), api.OCreate|api.OWronly)
	w.gives(100, 0, api.SysWrite, 3, top, 100)
	w.gives(262044, 0, api.SysWrite, 3, top, 70*page)
	w.nothing(0, api.SysWrite, 3, top, 1)
	w.gives(0, 0, api.SysWrite, 3, top, 0)
}

func TestConsole(t *testing.T) {
	w := begin(t)
	w.gives(0, 0, api.SysRead, 0, guarded, 0) // n 0: nothing is waited for
	w.keys("ab")
	w.sleepsOn(api.ChanConsole, 0, 0, api.SysRead, 0, stack, 10)
	w.keys("c")
	w.want("it sleeps", w.canRun(0), false)
	w.keys("\r")
	w.goesOn(4, 0)
	w.want("bytes", string(w.in(0, stack, 4)), "abc\n")
	w.keys("one\ntwo\nend\x04")
	for _, at := range badOut() {
		w.nothing(0, api.SysRead, 0, at, 4) // they stay
	}
	w.gives(2, 0, api.SysRead, 1, stack, 2)
	w.gives(0, 0, api.SysRead, 0, guarded, 0)
	for _, n := range noNumbers() {
		w.nothing(0, api.SysRead, 0, stack, n)
	}
	w.gives(2, 0, api.SysRead, 2, stack, 100)
	w.want("bytes", string(w.in(0, stack, 2)), "e\n")
	w.gives(4, 0, api.SysRead, 0, top-4, math.MaxInt32)
	w.gives(3, 0, api.SysRead, 0, stack, 100)
	w.gives(0, 0, api.SysRead, 0, guarded, 100) // the end of input: nothing is to be written
	w.sleepsOn(api.ChanConsole, 0, 0, api.SysRead, 0, guarded, 1)
	w.keys("z\n")
	w.goesOn(-1, 0)
	w.want("they stay", string(w.o.Look().Console.Ready), "z\n")
	w.want("printed", string(w.o.Output()), "abc\none\ntwo\nendz\n")
}

// All who wait for a line are woken; who comes too late sleeps again.
func TestReadersOfTheConsole(t *testing.T) {
	w := begin(t)
	w.fork(0)
	w.fork(0)
	for slot := range 3 {
		w.sleepsOn(api.ChanConsole, 0, slot, api.SysRead, 0, stack, 2)
	}
	w.keys("abc\n")
	for slot := range 3 {
		w.want("it can run", w.canRun(slot), true)
	}
	w.goesOn(2, 2)
	w.goesOn(2, 0)
	w.mustSleep(w.goOn(1), 1, api.ChanConsole, 0)
	w.keys(strings.Repeat("x", 127))
	w.want("it sleeps", w.canRun(1), false)
	w.keys("x") // a full line is finished
	w.goesOn(2, 1)
}

func TestWriteToTheConsole(t *testing.T) {
	w := begin(t)
	w.poke(0, stack, []byte("out\x00\xFF\x04\r"))
	w.gives(7, 0, api.SysWrite, 1, stack, 7)
	w.keys("k\b")
	w.gives(2, 0, api.SysWrite, 2, stack, 2)
	for _, at := range badIn() {
		w.nothing(0, api.SysWrite, 1, at, 4)
		w.gives(0, 0, api.SysWrite, 1, at, 0)
	}
	for _, n := range noNumbers() {
		w.nothing(0, api.SysWrite, 1, stack, n)
	}
	w.gives(3, 0, api.SysOpen, w.path(0, "/con"), api.ORdwr) // another device of the same major
	w.poke(0, stack, []byte("con"))
	w.gives(3, 0, api.SysWrite, 3, stack, 3)
	w.want("printed", string(w.o.Output()), "out\x00\xFF\x04\rk\b \boucon")
	w.keys("in\n")
	w.gives(3, 0, api.SysRead, 3, stack, 5)
}

// What is handed out is new each time.
func TestOutputIsNew(t *testing.T) {
	w := begin(t)
	w.keys("abc")
	one := w.o.Output()
	clear(one[:cap(one)])
	w.check("a spoiled Output")
	two := w.o.Output()
	_ = append(two, "zzz"...)
	w.keys("d")
	w.want("printed", string(w.o.Output()), "abcd")
	w.want("what was told stays", string(two), "abc")
}

func TestPipeRead(t *testing.T) {
	w := begin(t)
	w.gives(0, 0, api.SysPipe, stack)
	w.fork(0)
	w.gives(0, 1, api.SysRead, 3, guarded, 0)
	w.sleepsOn(api.ChanRead, 0, 1, api.SysRead, 3, stack, 100)
	w.poke(0, stack, []byte("through"))
	w.gives(7, 0, api.SysWrite, 4, stack, 7)
	w.goesOn(7, 1)
	w.want("bytes", string(w.in(1, stack, 7)), "through")
	w.gives(7, 0, api.SysWrite, 4, stack, 7)
	for _, at := range badOut() {
		w.nothing(1, api.SysRead, 3, at, 4) // they stay
	}
	for _, n := range noNumbers() {
		w.nothing(1, api.SysRead, 3, stack, n)
	}
	w.nothing(1, api.SysRead, 4, stack, 1) // the other end
	w.nothing(1, api.SysWrite, 3, stack, 1)
	w.nothing(1, api.SysRead, 4, stack, 0)
	w.nothing(1, api.SysWrite, 3, stack, 0)
	w.gives(3, 1, api.SysRead, 3, stack, 3)
	w.gives(4, 1, api.SysRead, 3, stack, 100)
	w.gives(0, 1, api.SysClose, 4)
	w.gives(0, 0, api.SysClose, 4)
	w.gives(0, 1, api.SysRead, 3, guarded, 100) // the end
	w.gives(0, 1, api.SysRead, 3, stack, 100)
}

// Bytes that can't be written stay also for one that goes on.
func TestPipeReadThatCantWrite(t *testing.T) {
	w := begin(t)
	w.gives(0, 0, api.SysPipe, stack)
	w.fork(0)
	w.sleepsOn(api.ChanRead, 0, 1, api.SysRead, 3, guarded, 100)
	w.gives(3, 0, api.SysWrite, 4, stack, 3)
	w.goesOn(-1, 1)
	w.gives(3, 0, api.SysRead, 3, stack, 3)
}

// All who wait for bytes are woken; who comes too late sleeps again.
func TestReadersOfAPipe(t *testing.T) {
	w := begin(t)
	w.gives(0, 0, api.SysPipe, stack)
	w.fork(0)
	w.fork(0)
	w.sleepsOn(api.ChanRead, 0, 1, api.SysRead, 3, stack, 2)
	w.sleepsOn(api.ChanRead, 0, 2, api.SysRead, 3, stack, 2)
	w.gives(2, 0, api.SysWrite, 4, stack, 2)
	w.goesOn(2, 2)
	w.mustSleep(w.goOn(1), 1, api.ChanRead, 0)
	w.gives(0, 0, api.SysWrite, 4, stack, 0) // nothing was put: nobody is woken
	w.want("it sleeps", w.canRun(1), false)
}

// written gives the bytes that a test writes into a pipe.
func written(n int) []byte {
	b := make([]byte, n)
	for k := range b {
		b[k] = byte(k*7 + k/256)
	}
	return b
}

func TestPipeWriteGoesOn(t *testing.T) {
	w := begin(t)
	w.gives(0, 0, api.SysPipe, stack)
	w.fork(0)
	w.poke(0, stack, written(2000))
	w.sleepsOn(api.ChanWrite, 0, 0, api.SysWrite, 4, stack, 2000)
	w.want("Pending", w.look(0).Pending, api.Pending{Num: api.SysWrite, Args: [3]uint64{4, stack, 2000}, Done: 512})
	var got []byte
	for len(got) < 2000-600 {
		w.gives(100, 1, api.SysRead, 3, stack, 100)
		got = append(got, w.in(1, stack, 100)...)
		w.mustSleep(w.goOn(0), 0, api.ChanWrite, 0)
		w.want("Done", w.look(0).Pending.Done, len(got)+512)
	}
	w.gives(88, 1, api.SysRead, 3, stack, 88)
	got = append(got, w.in(1, stack, 88)...)
	w.goesOn(2000, 0)
	w.gives(512, 1, api.SysRead, 3, stack, 4000)
	got = append(got, w.in(1, stack, 512)...)
	w.want("all came through", bytes.Equal(got, written(2000)), true)
}

// The sizes at which a write just is done, or just sleeps.
func TestPipeWriteAtTheEdges(t *testing.T) {
	for _, c := range []struct{ held, n, put int }{{0, 512, 512}, {0, 513, 512}, {1, 511, 511}, {1, 512, 511}, {511, 1, 1}, {511, 2, 1}, {512, 1, 0}, {512, 0, 0}} {
		w := begin(t)
		w.gives(0, 0, api.SysPipe, stack)
		w.poke(0, stack, written(600))
		if c.held > 0 {
			w.gives(int64(c.held), 0, api.SysWrite, 4, stack, uint64(c.held))
		}
		if c.put == c.n {
			w.gives(int64(c.n), 0, api.SysWrite, 4, stack, uint64(c.n))
			continue
		}
		w.sleepsOn(api.ChanWrite, 0, 0, api.SysWrite, 4, stack, uint64(c.n))
		w.want("Done", w.look(0).Pending.Done, c.put)
	}
}

// A write of many bytes goes on, piece by piece, to its end.
func TestPipeWriteOfManyBytes(t *testing.T) {
	w := begin(t)
	w.gives(0x3000, 0, api.SysSbrk, 3*page)
	w.gives(0, 0, api.SysPipe, stack)
	w.fork(0)
	w.poke(0, stack, written(4*page))
	w.sleepsOn(api.ChanWrite, 0, 0, api.SysWrite, 4, stack, 4*page)
	var got []byte
	for len(got) < 4*page-512 {
		w.gives(512, 1, api.SysRead, 3, stack, 600)
		got = append(got, w.in(1, stack, 512)...)
		if len(got) < 4*page-512 {
			w.mustSleep(w.goOn(0), 0, api.ChanWrite, 0)
		}
	}
	w.goesOn(4*page, 0)
	w.gives(512, 1, api.SysRead, 3, stack, 600)
	got = append(got, w.in(1, stack, 512)...)
	w.want("all came through", bytes.Equal(got, written(4*page)), true)
}

func TestPipeWriteIsBroken(t *testing.T) {
	w := begin(t)
	w.gives(0, 0, api.SysPipe, stack)
	w.fork(0)
	w.gives(0, 1, api.SysClose, 3)
	w.sleepsOn(api.ChanWrite, 0, 1, api.SysWrite, 4, stack, 600)
	w.gives(0, 0, api.SysClose, 3)
	w.goesOn(-1, 1) // though 512 were put
	w.nothing(1, api.SysWrite, 4, stack, 1)
	w.gives(0, 1, api.SysWrite, 4, stack, 0) // whoever reads
	w.gives(0, 1, api.SysWrite, 4, guarded, 0)
	for _, at := range badIn() {
		w.nothing(1, api.SysWrite, 4, at, 4)
	}
}

func TestPipeWriteThatCantRead(t *testing.T) {
	w := begin(t)
	w.gives(0, 0, api.SysPipe, stack)
	for _, at := range badIn() {
		w.nothing(0, api.SysWrite, 4, at, 4)
	}
	w.nothing(0, api.SysWrite, 4, top-512, 513) // ahead of the first byte, not behind 512
	w.nothing(0, api.SysWrite, 4, top-600, 601)
	for _, n := range append(noNumbers(), math.MaxInt32) {
		w.nothing(0, api.SysWrite, 4, stack, n)
	}
	w.want("the pipe", w.o.Look().Pipes[0].State.Writes, uint32(0))
}

// Writers that wait are all woken by a read; who finds no room sleeps again, with nothing done.
func TestWritersOfAPipe(t *testing.T) {
	w := begin(t)
	w.gives(0, 0, api.SysPipe, stack)
	w.fork(0)
	w.fork(0)
	w.gives(512, 0, api.SysWrite, 4, stack, 512)
	w.poke(1, stack, []byte("one"))
	w.poke(2, stack, []byte("two"))
	w.sleepsOn(api.ChanWrite, 0, 1, api.SysWrite, 4, stack, 3)
	w.sleepsOn(api.ChanWrite, 0, 2, api.SysWrite, 4, stack, 3)
	w.gives(0, 0, api.SysRead, 3, stack, 0) // nothing was taken: nobody is woken
	w.want("they sleep", []bool{w.canRun(1), w.canRun(2)}, []bool{false, false})
	w.nothing(0, api.SysRead, 3, guarded, 3)
	w.want("they sleep", []bool{w.canRun(1), w.canRun(2)}, []bool{false, false})
	w.gives(4, 0, api.SysRead, 3, stack, 4)
	w.goesOn(3, 2)
	w.mustSleep(w.goOn(1), 1, api.ChanWrite, 0)
	w.want("Done", w.look(1).Pending.Done, 1)
	w.gives(509, 0, api.SysRead, 3, stack, 509)
	w.goesOn(3, 1)
	w.gives(5, 0, api.SysRead, 3, stack, 100)
	w.want("bytes", string(w.in(0, stack, 5)), "wo"+"one")
}

// A process at both ends of its pipe.
func TestPipeOfOneProcess(t *testing.T) {
	w := begin(t)
	w.gives(0, 0, api.SysPipe, stack)
	w.poke(0, stack, written(512))
	w.gives(512, 0, api.SysWrite, 4, stack, 512)
	w.gives(512, 0, api.SysRead, 3, stack+1000, 600)
	w.want("bytes", w.in(0, stack+1000, 512), written(512))
	w.sleepsOn(api.ChanRead, 0, 0, api.SysRead, 3, stack, 1)
	_, any := w.o.Pick(0)
	w.want("somebody can run", any, false)
}
