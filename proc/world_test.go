package proc_test

// A table beside what the chapter says that it must be: every call is made on both, and behind each one everything that can be looked at is held against each other, and against P13.12, P13.14 and P13.15.

import (
	"errors"
	"fmt"
	"math"
	"testing"

	"hartix/api"
	"hartix/proc"
)

type world struct {
	t      *testing.T
	p      *proc.Table
	m      *plain
	was    api.ProcTable // ahead of the last call
	killed map[int]bool  // the pids that were ever killed
}

// call is a call that may change the table: what it is told.
type call struct {
	name string
	slot int
	pid  int
	on   api.Chan
}

func begin(t *testing.T) *world {
	t.Helper()
	w := &world{t: t, p: proc.New(), m: &plain{}, killed: map[int]bool{}, was: api.ProcTable{Next: 1}}
	if w.p == nil {
		t.Fatal("New gives nil")
	}
	w.check(call{name: "New"})
	return w
}

func from(t *testing.T, s api.ProcTable) *world {
	t.Helper()
	p, err := proc.From(s)
	if p == nil || err != nil {
		t.Fatalf("From = %v, %v of\n%s", p, err, told(s))
	}
	w := &world{t: t, p: p, m: plainOf(s), was: s, killed: map[int]bool{}}
	for _, q := range s.Slots {
		w.killed[q.Pid] = q.Killed
	}
	w.check(call{name: "From"})
	return w
}

// grown gives a table with a first process and children of the slots that are told.
func grown(t *testing.T, parents ...int) *world {
	t.Helper()
	w := begin(t)
	w.add(0)
	for _, parent := range parents {
		if _, _, errno := w.add(parent); errno != api.OK {
			t.Fatalf("Add(%d) = %d", parent, errno)
		}
	}
	return w
}

// renew goes on with the table that its state tells.
func (w *world) renew() {
	w.t.Helper()
	p, err := proc.From(w.p.State())
	if err != nil {
		w.t.Fatal(err)
	}
	w.p = p
	w.check(call{name: "From"})
}

// The calls, made on both. Each gives what the table answered.

func (w *world) add(parent int) (int, int, api.Errno) {
	w.t.Helper()
	slot, pid, errno := w.p.Add(parent)
	wantSlot, wantPid, wantErrno := w.m.add(parent)
	w.want(fmt.Sprintf("Add(%d)", parent), [3]int{slot, pid, int(errno)}, [3]int{wantSlot, wantPid, int(wantErrno)})
	w.check(call{name: "Add", slot: slot, pid: pid})
	return slot, pid, errno
}

func (w *world) sleep(slot int, c api.Chan) api.Errno {
	w.t.Helper()
	errno := w.p.Sleep(slot, c)
	w.want(fmt.Sprintf("Sleep(%d, %v)", slot, c), errno, w.m.sleep(slot, c))
	w.check(call{name: "Sleep", slot: slot, on: c})
	return errno
}

func (w *world) wake(c api.Chan) int {
	w.t.Helper()
	n := w.p.Wake(c)
	w.want(fmt.Sprintf("Wake(%v)", c), n, w.m.wake(c))
	w.check(call{name: "Wake", on: c})
	return n
}

func (w *world) wakeOne(slot int) api.Errno {
	w.t.Helper()
	errno := w.p.WakeOne(slot)
	w.want(fmt.Sprintf("WakeOne(%d)", slot), errno, w.m.wakeOne(slot))
	w.check(call{name: "WakeOne", slot: slot})
	return errno
}

func (w *world) kill(pid int) api.Errno {
	w.t.Helper()
	errno := w.p.Kill(pid)
	w.want(fmt.Sprintf("Kill(%d)", pid), errno, w.m.kill(pid))
	w.check(call{name: "Kill", pid: pid})
	return errno
}

func (w *world) end(slot int, status int32) (bool, api.Errno) {
	w.t.Helper()
	some, errno := w.p.End(slot, status)
	wantSome, wantErrno := w.m.end(slot, status)
	w.want(fmt.Sprintf("End(%d, %d)", slot, status), []any{some, errno}, []any{wantSome, wantErrno})
	w.check(call{name: "End", slot: slot})
	return some, errno
}

func (w *world) free(slot int) api.Errno {
	w.t.Helper()
	errno := w.p.Free(slot)
	w.want(fmt.Sprintf("Free(%d)", slot), errno, w.m.free(slot))
	w.check(call{name: "Free", slot: slot})
	return errno
}

func (w *world) want(what string, got, want any) {
	w.t.Helper()
	if fmt.Sprint(got) != fmt.Sprint(want) {
		w.t.Fatalf("%s: %v, want %v, of\n%s", what, got, want, told(w.was))
	}
}

// check holds everything against what it must be.
func (w *world) check(c call) {
	w.t.Helper()
	s := w.p.State()
	if want := w.m.state(); s != want {
		w.t.Fatalf("behind %+v:\n%swant\n%s", c, told(s), told(want))
	}
	w.checkLooks(c, s)
	w.checkHolds(c, s)
	w.checkTurns(c, s)
	if again := w.p.State(); again != s {
		w.t.Fatalf("behind %+v: a look changes the table", c)
	}
	w.was = s
}

// checkLooks holds all that only looks against the chapter.
func (w *world) checkLooks(c call, s api.ProcTable) {
	w.t.Helper()
	if got, want := w.p.Room(), w.m.room(); got != want {
		w.t.Fatalf("behind %+v: Room = %v", c, got)
	}
	for _, n := range slots() {
		var look api.Proc
		if n >= 0 && n < places {
			look = s.Slots[n]
		}
		if got := w.p.Look(n); got != look {
			w.t.Fatalf("behind %+v: Look(%d) = %+v, want %+v", c, n, got, look)
		}
		slot, ok := w.p.Pick(n)
		if want, wantOk := w.m.pick(n); slot != want || ok != wantOk {
			w.t.Fatalf("behind %+v: Pick(%d) = %d, %v, want %d, %v of\n%s", c, n, slot, ok, want, wantOk, told(s))
		}
		if look.Pid == 0 && n%8 != 0 { // of the slots without a process some are enough
			continue
		}
		slot, ok = w.p.Zombie(n)
		if want, wantOk := w.m.zombie(n); slot != want || ok != wantOk {
			w.t.Fatalf("behind %+v: Zombie(%d) = %d, %v, want %d, %v of\n%s", c, n, slot, ok, want, wantOk, told(s))
		}
	}
}

// slots are all numbers of slots, and some that are none.
func slots() []int {
	all := []int{math.MinInt, -1 << 32, -64, -1}
	for k := range places {
		all = append(all, k)
	}
	return append(all, 64, 65, 99, 127, 128, 256, 1<<32, 1<<32+1, math.MaxInt)
}

// channels are such as can be slept on, and such as can't.
func channels() (good, bad []api.Chan) {
	for kind := -2; kind <= 9; kind++ {
		for _, n := range []int{math.MinInt, -1 << 32, -2, -1, 0, 1, 2, 63, 64, 1 << 31, 1 << 32, 1<<32 + 1, math.MaxInt} {
			c := api.Chan{Kind: kind, N: n}
			if n >= 0 && kind >= 1 && kind <= 5 {
				good = append(good, c)
			} else {
				bad = append(bad, c)
			}
		}
	}
	for _, kind := range []int{math.MinInt, -1 << 32, 257, 1<<32 + 1, math.MaxInt} {
		bad = append(bad, api.Chan{Kind: kind}, api.Chan{Kind: kind, N: 1})
	}
	return good, bad
}

// told tells a table in words.
func told(s api.ProcTable) string {
	out := fmt.Sprintf("next %d\n", s.Next)
	for slot, p := range s.Slots {
		if p != (api.Proc{}) {
			out += fmt.Sprintf("  %d: %+v\n", slot, p)
		}
	}
	return out
}

func wantImageFault(t *testing.T, s api.ProcTable, at int) {
	t.Helper()
	p, err := proc.From(s)
	var f *api.Fault
	if p != nil || !errors.As(err, &f) || *f != (api.Fault{Layer: "proc", At: at, Err: api.ErrImage}) {
		t.Fatalf("From = %v, %v, want the place %d, of\n%s", p, err, at, told(s))
	}
}

func timeAt(n int) api.Chan { return api.Chan{Kind: api.ChanTime, N: n} }
