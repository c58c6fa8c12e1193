package call_test

// Rows of drawn calls, keys, ticks and ends, each held against the abstract machine (P15.14 to P15.17).

import (
	"fmt"
	"math"
	"reflect"
	"testing"

	"hartix/api"
)

func drawnPath(s *scatter) string {
	return pick(s, "/p", "/long", "/bad", "/d", "d/f", "/console", "/odd", "/con", "a", "b", "/d/a", "d/b", "e", "e/x", "/e/..", ".", "..", "", "/", "../a", "/none/x", "f", "/a/b", "verylongnamethatiscut", "/d/verylongnamethatisnot")
}

// drawnAddress gives one in the process's memory, mostly; at its borders; or elsewhere.
func (w *world) drawnAddress(s *scatter, slot int) uint64 {
	pages := uint64(len(w.m.procs[slot].pages))
	border := uint64(s.below(int(pages)+2)) * page
	switch s.below(10) {
	case 0:
		return pick[uint64](s, 0, minus1, 1<<38-page, 1<<38, 1<<63, guarded, code, minus1-7)
	case 1, 2:
		return border - uint64(s.below(12))
	case 3:
		return border + uint64(s.below(page))
	}
	return stack + uint64(s.below(page-700))
}

// drawnText lays a path somewhere, if there is a page for it.
func (w *world) drawnText(s *scatter, slot int, offset uint64) uint64 {
	if s.below(15) == 0 || len(w.m.procs[slot].pages) < 3 {
		return w.drawnAddress(s, slot)
	}
	return w.text(slot, stack+offset+uint64(s.below(300)), drawnPath(s))
}

func (w *world) drawnFd(s *scatter, slot int) uint64 {
	if s.below(8) == 0 {
		return pick(s, uint64(s.below(18)), minus1, 1<<31, 1<<32)
	}
	from := s.below(16)
	for k := range 16 {
		if _, ok := w.m.procs[slot].fds[(from+k)%16]; ok {
			return uint64((from+k)%16) | uint64(s.below(2))<<40
		}
	}
	return 0
}

func drawnNumber(s *scatter) uint64 {
	return pick(s, 0, 1, 2, uint64(s.below(20)), uint64(s.below(600)), 512, 513, uint64(s.below(3000)), uint64(s.below(page+10)), pick[uint64](s, minus1, 1<<31, math.MaxInt32, 1<<32+3))
}

func (w *world) drawnSize(s *scatter) uint64 {
	return pick(s, 0, 1, minus1, uint64(s.below(page)), uint64(page+s.below(3*page)), uint64(-int64(s.below(page))), uint64(-int64(s.below(2*page))), pick[uint64](s, math.MaxInt32, 1<<31, minus1-20*page, uint64(s.below(40)*page)))
}

func (w *world) drawnArgv(s *scatter, slot int) uint64 {
	if s.below(12) == 0 || len(w.m.procs[slot].pages) < 3 {
		return w.drawnAddress(s, slot)
	}
	var args []string
	for range s.below(5) {
		args = append(args, drawnPath(s))
	}
	return w.arguments(slot, stack+0x300+uint64(s.below(8)), args...)
}

func (w *world) drawnPid(s *scatter) uint64 {
	if s.below(3) == 0 {
		return pick(s, 0, minus1, uint64(w.m.next), uint64(s.below(w.m.next+2)))
	}
	from := s.below(slots)
	for k := range slots {
		if p := w.m.procs[(from+k)%slots]; p != nil && (p.pid != 1 || s.below(20) == 0) {
			return uint64(p.pid)
		}
	}
	return 1
}

// allCalls are the calls that are drawn, those that can go in many ways more often.
func allCalls() []uint64 {
	return []uint64{1, 1, 1, 2, 3, 4, 4, 5, 5, 5, 5, 5, 6, 7, 7, 8, 9, 10, 11, 12, 12, 13, 14, 15, 15, 15, 15, 16, 16, 16, 16, 16, 17, 18, 18, 19, 20, 21, 21}
}

// drawnCall makes a call, and tells how it went.
func (w *world) drawnCall(s *scatter, slot int) string {
	number := pick(s, append(w.mix, uint64(s.below(30)))...)
	a := [3]uint64{s.next(), s.next(), s.next()}
	switch number {
	case api.SysExit:
		if slot == 0 && s.below(10) > 0 {
			number = api.SysGetpid
		}
	case api.SysWait:
		a[0] = pick(s, 0, w.drawnAddress(s, slot))
	case api.SysPipe:
		a[0] = w.drawnAddress(s, slot)
	case api.SysRead, api.SysWrite:
		a = [3]uint64{w.drawnFd(s, slot), w.drawnAddress(s, slot), drawnNumber(s)}
	case api.SysKill:
		a[0] = w.drawnPid(s)
	case api.SysExec:
		a[0], a[1] = w.drawnText(s, slot, 0), w.drawnArgv(s, slot)
		if s.below(2) == 0 && len(w.m.procs[slot].pages) >= 3 {
			w.text(slot, stack, pick(s, "/p", "/long"))
			a[0] = stack
		}
	case api.SysFstat:
		a[0], a[1] = w.drawnFd(s, slot), w.drawnAddress(s, slot)
	case api.SysDup, api.SysClose:
		a[0] = w.drawnFd(s, slot)
	case api.SysSbrk:
		a[0] = w.drawnSize(s)
	case api.SysSleep:
		a[0] = pick[uint64](s, 0, 1, 1, 2, 5, minus1)
	case api.SysOpen:
		a[0], a[1] = w.drawnText(s, slot, 0), pick(s, modes()...)
	case api.SysChdir, api.SysMknod, api.SysUnlink, api.SysLink, api.SysMkdir:
		a[0] = w.drawnText(s, slot, 0)
		if number == api.SysLink {
			a[1] = w.drawnText(s, slot, 500)
		}
	}
	next, a0 := w.ask(slot, number, a[:]...)
	return fmt.Sprint(min(number, 22), " ", told(next, a0))
}

func told(next int, a0 int64) string {
	switch {
	case next == api.NextSleep:
		return "sleeps"
	case next == api.NextGone:
		return "ends"
	case next == 0:
		return "is none"
	case a0 == -1:
		return "-1"
	}
	return "answers"
}

// drawnSlot gives one that has a process, mostly one that can run.
func (w *world) drawnSlot(s *scatter) int {
	if s.below(4) > 0 {
		if slot, ok := w.m.pick(s.below(slots)); ok {
			return slot
		}
	}
	from := s.below(slots)
	for w.m.procs[from%slots] == nil {
		from++
	}
	return from % slots
}

// turn does one drawn thing, and tells which, and how it went.
func (w *world) turn(s *scatter) string {
	switch s.below(40) {
	case 0, 1:
		w.tick()
		return "tick"
	case 2, 3:
		w.keys(pick(s, "a", "line\n", "x\ny\n", "\x04", "end\x04", "\b", "\x15", "\r", "\x00"))
		return "type"
	case 4:
		if slot := w.drawnSlot(s); slot != 0 && s.below(2) == 0 {
			w.end(slot, int32(s.next()))
			return "end"
		}
	case 5:
		slot := pick(s, s.below(slots), -1, 64)
		return fmt.Sprint("any ", told(w.call(slot), 0), " ", told(w.goOn(slot), 0))
	}
	slot := w.drawnSlot(s)
	p := w.m.procs[slot]
	if p.state != api.ProcRun && s.below(10) == 0 {
		return fmt.Sprint("idle ", w.call(slot), w.goOn(slot))
	}
	if p.state != api.ProcRun { // somebody may have to be woken
		return w.stir(s)
	}
	if p.doing == nil {
		return w.drawnCall(s, slot)
	}
	number := p.doing.Num
	next := w.goOn(slot)
	regs, _ := w.o.Regs(slot)
	return fmt.Sprint("on ", number, " ", told(next, int64(regs.X[10])))
}

// stir does what may let somebody run.
func (w *world) stir(s *scatter) string {
	switch s.below(3) {
	case 0:
		w.tick()
		return "tick"
	case 1:
		w.keys("stir\n")
		return "type"
	}
	slot := w.drawnSlot(s)
	if slot > 0 {
		w.end(slot, int32(s.next()))
	}
	return "end"
}

// isOver tells of a world in which little can happen any more: the first process has ended, or nobody can run.
func (w *world) isOver(s *scatter) bool {
	_, over := w.o.Ended()
	_, any := w.o.Pick(0)
	return (over || !any) && s.below(15) == 0
}

// play draws worlds and what is done in them; it tells how often each thing came.
func play(t *testing.T, seed scatter, worlds, turns int, mix []uint64) map[string]int {
	t.Helper()
	seen := map[string]int{}
	for range worlds {
		w := beginWith(t, pick(&seed, 40, 70, 120, 200))
		w.mix = mix
		for k := 0; k < turns && !w.isOver(&seed); k++ {
			seen[w.turn(&seed)]++
		}
	}
	return seen
}

func mustHaveCome(t *testing.T, seen map[string]int, things ...string) {
	t.Helper()
	for _, what := range things {
		if seen[what] < 3 {
			t.Errorf("%q came %d times", what, seen[what])
		}
	}
	if t.Failed() {
		t.Log(seen)
	}
}

func TestDrawnCalls(t *testing.T) {
	seen := play(t, 15, 60, 300, allCalls())
	for number := 1; number <= 21; number++ {
		ways := []string{"-1", "answers"}
		switch number {
		case api.SysExit:
			ways = []string{"ends"}
		case api.SysGetpid, api.SysUptime:
			ways = []string{"answers"}
		case api.SysSleep:
			ways = []string{"answers", "sleeps"}
		case api.SysWait, api.SysRead, api.SysWrite:
			ways = append(ways, "sleeps")
		}
		for _, way := range ways {
			mustHaveCome(t, seen, fmt.Sprint(number, " ", way))
		}
	}
	mustHaveCome(t, seen, "on 3 answers", "on 5 answers", "on 5 -1", "on 5 ends", "on 13 answers", "22 -1", "0 -1", "5 ends", "tick", "type", "end", "idle 0 0")
}

// pipeTurn lets one of some processes that share a pipe, at their descriptors 3 and 4, do something with it.
func (w *world) pipeTurn(s *scatter) string {
	slot, any := w.m.pick(s.below(slots))
	if !any {
		return w.stir(s)
	}
	if p := w.m.procs[slot]; p.doing != nil {
		number := p.doing.Num
		next := w.goOn(slot)
		regs, _ := w.o.Regs(slot)
		return fmt.Sprint("on ", number, " ", told(next, int64(regs.X[10])))
	}
	number, a := uint64(api.SysRead), [3]uint64{3, stack + uint64(s.below(1500)), uint64(s.below(1500))}
	switch k := s.below(100); {
	case k < 45:
		number, a[0] = api.SysWrite, 4
	case k < 50:
		number, a[0] = api.SysClose, uint64(3+s.below(2))
	case k < 54:
		number, a[0] = api.SysKill, w.drawnPid(s)
	case k < 60:
		a[1] = w.drawnAddress(s, slot)
	}
	next, a0 := w.ask(slot, number, a[:]...)
	return fmt.Sprint(number, " ", told(next, a0))
}

func TestDrawnPipes(t *testing.T) {
	s := scatter(4)
	seen := map[string]int{}
	for range 100 {
		w := beginWith(t, 120)
		w.gives(0, 0, api.SysPipe, stack)
		for range 4 {
			w.fork(0)
		}
		for slot := range 5 {
			b := make([]byte, page)
			for k := range b {
				b[k] = byte(s.next())
			}
			w.poke(slot, stack, b)
			if s.below(3) > 0 {
				w.gives(0, slot, api.SysClose, uint64(3+slot%2)) // who writes must not read, for the pipe to be broken
			}
		}
		for k := 0; k < 100 && !w.isOver(&s); k++ {
			seen[w.pipeTurn(&s)]++
		}
	}
	mustHaveCome(t, seen, "5 answers", "5 -1", "5 sleeps", "5 ends", "on 5 answers", "on 5 -1", "on 5 sleeps", "on 5 ends", "16 answers", "16 -1", "16 sleeps", "on 16 answers", "on 16 sleeps", "on 16 -1", "on 16 ends")
}

// Two systems that were told the same are the same (DOC.md, One answer).
func TestOneAnswer(t *testing.T) {
	one, two := beginWith(t, 90), beginWith(t, 90)
	one.mix, two.mix = allCalls(), allCalls()
	s, same := scatter(9), scatter(9)
	for range 300 {
		if a, b := one.turn(&s), two.turn(&same); a != b || !reflect.DeepEqual(one.o.Look(), two.o.Look()) {
			t.Fatalf("%q, %q", a, b)
		}
	}
}
