package proc_test

// P13.8 to P13.10: End, Zombie and Free.

import (
	"math"
	"testing"

	"hartix/api"
)

func TestEndBySlot(t *testing.T) {
	for _, slot := range slots() {
		w := grown(t, 0, 0, 0)
		w.sleep(2, timeAt(2))
		w.end(3, 9)
		some, errno := w.end(slot, -7)
		want := api.ErrProcSlot
		switch slot {
		case 0, 1, 2:
			want = api.OK
			if got := w.p.Look(slot); got != (api.Proc{Pid: slot + 1, State: api.ProcZombie, Status: -7}) {
				t.Errorf("End(%d): %+v", slot, got)
			}
		case 3:
			want = api.ErrProcState
			if got := w.p.Look(3).Status; got != 9 {
				t.Errorf("the status of a zombie turns to %d", got)
			}
		}
		if some || errno != want {
			t.Errorf("End(%d) = %v, %d", slot, some, errno)
		}
	}
}

func TestEndStatus(t *testing.T) {
	for _, status := range []int32{0, 1, -1, 127, 128, 255, 256, 32768, math.MaxInt32, math.MinInt32, math.MinInt32 + 1} {
		for slot := range 2 {
			w := grown(t, 0)
			w.end(slot, status)
			if got := w.p.Look(slot).Status; got != status {
				t.Errorf("End(%d, %d): %d", slot, status, got)
			}
			w.renew()
		}
	}
}

// Killed or not, a zombie is as it was.
func TestEndOfKilled(t *testing.T) {
	for slot := range 3 {
		w := grown(t, 0, 1)
		w.sleep(slot, timeAt(1))
		w.kill(slot + 1)
		w.end(slot, -1)
		if got := w.p.Look(slot); !got.Killed || got.State != api.ProcZombie || got.Status != -1 {
			t.Errorf("%+v", got)
		}
		if other := w.p.Look((slot + 1) % 3); other.Killed || other.State != api.ProcRun {
			t.Errorf("the other one: %+v", other)
		}
	}
}

// family is a first process (0) with the children 1 and 2; 1 has 3 (runs), 4 (sleeps) and 5 (whose child is 6); 2 has 7.
func family(t *testing.T) *world {
	t.Helper()
	w := grown(t, 0, 0, 1, 1, 1, 5, 2)
	w.sleep(4, timeAt(4))
	return w
}

func wantParents(t *testing.T, w *world, want ...int) {
	t.Helper()
	for slot, parent := range want {
		if got := w.p.Look(slot).Parent; got != parent {
			t.Errorf("the parent of slot %d is %d, want %d", slot, got, parent)
		}
	}
}

// The children of whoever ends are slot 0's, their children stay theirs; the answer tells of zombies among them alone.
func TestEndGivesChildrenAway(t *testing.T) {
	w := family(t)
	wantEndOf(t, w, 1, false)
	wantParents(t, w, 0, 0, 0, 0, 0, 0, 5, 2)
	wantEndOf(t, w, 6, false)
	wantEndOf(t, w, 5, true)
	wantParents(t, w, 0, 0, 0, 0, 0, 0, 0, 2)
	wantEndOf(t, w, 2, false) // zombies are there, but none of them comes by this end
	wantParents(t, w, 0, 0, 0, 0, 0, 0, 0, 0)
	wantEndOf(t, w, 7, false)
	if got := w.p.Look(4); got != (api.Proc{Pid: 5, State: api.ProcSleep, Chan: timeAt(4)}) {
		t.Errorf("a child that sleeps: %+v", got)
	}
}

func wantEndOf(t *testing.T, w *world, slot int, want bool) {
	t.Helper()
	if some, errno := w.end(slot, 1); some != want || errno != api.OK {
		t.Errorf("End(%d) = %v, %d", slot, some, errno)
	}
}

// A zombie at any place among the children is told.
func TestEndTellsZombies(t *testing.T) {
	for zombie := 3; zombie <= 5; zombie++ {
		w := family(t)
		w.end(zombie, 2)
		wantEndOf(t, w, 1, true)
		if got := w.p.Look(zombie); got.Parent != 0 || got.State != api.ProcZombie || got.Status != 2 {
			t.Errorf("slot %d: %+v", zombie, got)
		}
	}
}

// The first process keeps its children, and nothing is told of them; those of others come to it behind its end too.
func TestEndOfTheFirst(t *testing.T) {
	w := family(t)
	w.end(2, 1)
	w.end(3, 1)
	wantEndOf(t, w, 0, false)
	wantParents(t, w, 0, 0, 0, 1, 1, 1, 5, 0)
	wantZombie(t, w.p, 0, 2, true)
	wantEndOf(t, w, 1, true)
	wantParents(t, w, 0, 0, 0, 0, 0, 0, 5, 0)
	if _, errno := w.end(0, 1); errno != api.ErrProcState {
		t.Errorf("End of a first one that has ended: %d", errno)
	}
	wantErrno(t, "Free of a child", w.free(2), api.OK)
	wantErrno(t, "Free of the first", w.free(0), api.ErrProcSlot)
}

func TestZombie(t *testing.T) {
	w := family(t)
	wantZombie(t, w.p, 0, -1, true)
	wantZombie(t, w.p, 1, -1, true)
	wantZombie(t, w.p, 3, -1, false)
	w.end(5, 1)
	wantZombie(t, w.p, 0, -1, true)
	wantZombie(t, w.p, 1, 5, true)
	wantZombie(t, w.p, 5, -1, false)
	w.end(3, 1)
	wantZombie(t, w.p, 1, 3, true)
	wantZombie(t, w.p, 2, -1, true)
	w.end(1, 1)
	wantZombie(t, w.p, 0, 1, true)
	wantZombie(t, w.p, 1, -1, false)
	for _, slot := range []int{1, 3, 5} {
		wantZombie(t, w.p, 0, slot, true)
		wantErrno(t, "Free", w.free(slot), api.OK)
	}
	wantZombie(t, w.p, 0, -1, true)
	for _, slot := range []int{math.MinInt, -1, 1, 8, 63, 64, 1 << 32, math.MaxInt} {
		wantZombie(t, w.p, slot, -1, false)
	}
}

// The first process is nobody's child, not even its own, and a zombie of it is nobody's to wait for.
func TestFirstIsNoChild(t *testing.T) {
	w := grown(t)
	wantZombie(t, w.p, 0, -1, false)
	w.end(0, 1)
	wantZombie(t, w.p, 0, -1, false)
	w = grown(t, 0)
	w.end(0, 1)
	wantZombie(t, w.p, 0, -1, true)
	w.end(1, 1)
	wantZombie(t, w.p, 0, 1, true)
}

func TestFreeBySlot(t *testing.T) {
	for _, slot := range slots() {
		for _, firstEnds := range []bool{false, true} {
			w := grown(t, 0, 0, 0)
			w.end(1, 4)
			w.sleep(3, timeAt(1))
			if firstEnds {
				w.end(0, 1)
			}
			want := api.ErrProcSlot
			switch slot {
			case 1:
				want = api.OK
			case 2, 3:
				want = api.ErrProcState
			}
			wantErrno(t, "Free", w.free(slot), want)
			if got := w.p.Look(1); slot == 1 && got != (api.Proc{}) {
				t.Errorf("behind Free: %+v", got)
			}
		}
	}
}

// A slot that was used has nothing left of the one ahead.
func TestSlotAgain(t *testing.T) {
	w := grown(t, 0, 1)
	w.kill(3)
	w.end(2, 77)
	w.free(2)
	wantErrno(t, "Free again", w.free(2), api.ErrProcSlot)
	w.add(0)
	if got := w.p.Look(2); got != (api.Proc{Pid: 4, State: api.ProcRun}) {
		t.Errorf("%+v", got)
	}
	wantZombie(t, w.p, 1, -1, false)
}
