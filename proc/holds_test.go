package proc_test

// P13.12, P13.14 and P13.15: what holds whatever is done. Every call of a world is held against it.

import (
	"testing"

	"hartix/api"
)

// act is one call on a world.
type act func(*world)

func acts() []act {
	return []act{
		func(w *world) { w.add(0) },
		func(w *world) { w.add(1) },
		func(w *world) { w.add(2) },
		func(w *world) { w.sleep(0, timeAt(1)) },
		func(w *world) { w.sleep(1, timeAt(1)) },
		func(w *world) { w.sleep(2, timeAt(2)) },
		func(w *world) { w.sleep(1, api.Chan{}) },
		func(w *world) { w.wake(timeAt(1)) },
		func(w *world) { w.wake(api.Chan{}) },
		func(w *world) { w.wakeOne(1) },
		func(w *world) { w.wakeOne(2) },
		func(w *world) { w.kill(1) },
		func(w *world) { w.kill(2) },
		func(w *world) { w.kill(3) },
		func(w *world) { w.kill(0) },
		func(w *world) { w.end(0, 1) },
		func(w *world) { w.end(1, 2) },
		func(w *world) { w.end(2, 3) },
		func(w *world) { w.free(0) },
		func(w *world) { w.free(1) },
		func(w *world) { w.free(2) },
	}
}

// All rows of three calls, from tables of none, one and three processes (a child's child too), and behind ends.
func TestAllShortRows(t *testing.T) {
	four := grown(t, 0, 1, 2, 1)
	four.end(2, 4)
	starts := []api.ProcTable{begin(t).p.State(), alone(2), grown(t, 0, 1).p.State(), four.p.State()}
	all := acts()
	n := len(all)
	for k := range n * n * n {
		for _, s := range starts {
			w := from(t, s)
			for _, a := range []int{k / (n * n), k / n % n, k % n} {
				all[a](w)
			}
		}
	}
}

// P13.15, by hand: the whole life of a process.
func TestLife(t *testing.T) {
	w := grown(t)
	slot, pid, _ := w.add(0)
	for k := range 5 {
		wantErrno(t, "Sleep", w.sleep(slot, timeAt(k)), api.OK)
		wantErrno(t, "Free of one that sleeps", w.free(slot), api.ErrProcState)
		if n := w.wake(timeAt(k + 1)); n != 0 {
			t.Errorf("another channel wakes %d", n)
		}
		if n := w.wake(timeAt(k)); n != 1 {
			t.Errorf("its channel wakes %d", n)
		}
		wantErrno(t, "Free of one that runs", w.free(slot), api.ErrProcState)
	}
	w.end(slot, 1)
	wantErrno(t, "Sleep", w.sleep(slot, timeAt(1)), api.ErrProcState)
	wantErrno(t, "WakeOne", w.wakeOne(slot), api.ErrProcState)
	if w.wake(timeAt(4))+w.wake(api.Chan{}) != 0 {
		t.Error("a zombie is woken")
	}
	wantErrno(t, "Free", w.free(slot), api.OK)
	wantErrno(t, "Kill", w.kill(pid), api.ErrProcPid)
	if again, other, _ := w.add(0); again != slot || other != pid+1 {
		t.Errorf("the next one is in slot %d, of the pid %d", again, other)
	}
}

// P13.12: a chain as long as the table leads to slot 0, whoever of it ends.
func TestLongChain(t *testing.T) {
	for _, goes := range []int{1, 2, 31, 62, 63} {
		w := grown(t)
		for slot := range places - 1 {
			w.add(slot)
		}
		wantParents(t, w, 0, 0, 1, 2, 3)
		some, _ := w.end(goes, 0)
		if goes < 63 {
			wantZombie(t, w.p, goes-1, goes, true)
			if got := w.p.Look(goes + 1).Parent; got != 0 || some {
				t.Errorf("End(%d): the child's parent is %d; %v", goes, got, some)
			}
		}
		w.renew()
	}
}
