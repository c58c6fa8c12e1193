package proc_test

// P13.5 to P13.7: Sleep, Wake, WakeOne and Kill.

import (
	"math"
	"testing"

	"hartix/api"
)

func TestSleepOnAll(t *testing.T) {
	good, bad := channels()
	for _, c := range good {
		w := grown(t, 0, 0)
		wantErrno(t, "Sleep", w.sleep(1, c), api.OK)
		if got := w.p.Look(1); got != (api.Proc{Pid: 2, State: api.ProcSleep, Chan: c}) {
			t.Errorf("Sleep on %v: %+v", c, got)
		}
		if n := w.wake(c); n != 1 {
			t.Errorf("Wake(%v) = %d", c, n)
		}
		wantErrno(t, "Sleep again", w.sleep(1, c), api.OK)
	}
	w := grown(t, 0)
	for _, c := range bad {
		wantErrno(t, "Sleep", w.sleep(1, c), api.ErrProcChan)
		if n := w.wake(c); n != 0 {
			t.Errorf("Wake(%v) = %d", c, n)
		}
	}
}

func TestSleepBySlot(t *testing.T) {
	for _, slot := range slots() {
		for _, c := range []api.Chan{timeAt(3), {}} {
			w := grown(t, 0, 0, 0, 0, 0)
			w.sleep(2, timeAt(3))
			w.end(3, 0)
			w.kill(5)
			w.kill(6)
			w.end(5, 0)
			want := api.ErrProcSlot
			switch {
			case slot >= 2 && slot <= 5:
				want = api.ErrProcState
			case (slot == 0 || slot == 1) && c == api.Chan{}:
				want = api.ErrProcChan
			case slot == 0 || slot == 1:
				want = api.OK
			}
			wantErrno(t, "Sleep", w.sleep(slot, c), want)
		}
	}
}

// sleepers gives a table in which many sleep: on channels that are nearly alike.
func sleepers(t *testing.T) *world {
	t.Helper()
	w := grown(t, 0, 0, 0, 0, 0, 0, 0, 0)
	for slot, c := range []api.Chan{{Kind: api.ChanTime, N: 4}, {Kind: api.ChanRead, N: 4}, {Kind: api.ChanTime, N: 4}, {Kind: api.ChanTime, N: 5}, {Kind: api.ChanWrite, N: 4}, {Kind: api.ChanRead, N: 2}, {Kind: api.ChanTime, N: 4}} {
		wantErrno(t, "Sleep", w.sleep(slot, c), api.OK)
	}
	w.end(8, 1)
	return w
}

func TestWake(t *testing.T) {
	for _, c := range []struct {
		on api.Chan
		n  int
	}{
		{api.Chan{Kind: api.ChanTime, N: 4}, 3}, {api.Chan{Kind: api.ChanTime, N: 5}, 1}, {api.Chan{Kind: api.ChanRead, N: 4}, 1}, {api.Chan{Kind: api.ChanRead, N: 2}, 1},
		{api.Chan{Kind: api.ChanWrite, N: 4}, 1}, {api.Chan{Kind: api.ChanWrite, N: 2}, 0}, {api.Chan{Kind: 4, N: 5}, 0}, {api.Chan{Kind: api.ChanConsole, N: 4}, 0},
		{api.Chan{}, 0}, {api.Chan{N: 4}, 0}, {api.Chan{Kind: api.ChanTime, N: -4}, 0}, {api.Chan{Kind: api.ChanTime, N: 4 + 1<<32}, 0}, {api.Chan{Kind: api.ChanTime + 1<<32, N: 4}, 0},
	} {
		w := sleepers(t)
		if n := w.wake(c.on); n != c.n {
			t.Errorf("Wake(%v) = %d, want %d", c.on, n, c.n)
		}
		if n := w.wake(c.on); n != 0 {
			t.Errorf("Wake(%v) again = %d", c.on, n)
		}
	}
}

func TestWakeAll(t *testing.T) {
	w := crowd(t)
	for slot := range places {
		w.sleep(slot, timeAt(0))
	}
	wantPick(t, w.p, 0, -1, false)
	if n := w.wake(timeAt(0)); n != 64 {
		t.Errorf("Wake = %d", n)
	}
}

func TestWakeOne(t *testing.T) {
	for _, slot := range slots() {
		w := sleepers(t)
		want := api.ErrProcSlot
		switch {
		case slot >= 0 && slot <= 6:
			want = api.OK
		case slot == 7 || slot == 8:
			want = api.ErrProcState
		}
		wantErrno(t, "WakeOne", w.wakeOne(slot), want)
		if want == api.OK {
			wantErrno(t, "WakeOne again", w.wakeOne(slot), api.ErrProcState)
		}
	}
}

func TestKill(t *testing.T) {
	for _, pid := range append(slots(), lastPid, lastPid+1) {
		w := sleepers(t)
		w.free(8)
		want := api.ErrProcPid
		if pid >= 1 && pid <= 8 {
			want = api.OK
		}
		wantErrno(t, "Kill", w.kill(pid), want)
		if want != api.OK {
			continue
		}
		if got := w.p.Look(pid - 1); got != (api.Proc{Pid: pid, State: api.ProcRun, Killed: true}) {
			t.Errorf("Kill(%d): %+v", pid, got)
		}
		wantErrno(t, "Kill again", w.kill(pid), api.OK)
		wantErrno(t, "Sleep of a killed one", w.sleep(pid-1, timeAt(1)), api.ErrProcState)
		wantErrno(t, "WakeOne of a killed one", w.wakeOne(pid-1), api.ErrProcState)
	}
}

// Kill asks for the pid, not for the slot.
func TestKillByPid(t *testing.T) {
	w := grown(t, 0, 0)
	w.end(1, 0)
	w.free(1)
	w.add(0)
	wantErrno(t, "Kill of one that was waited for", w.kill(2), api.ErrProcPid)
	wantErrno(t, "Kill", w.kill(4), api.OK)
	if !w.p.Look(1).Killed || w.p.Look(2).Killed || w.p.Look(0).Killed {
		t.Error(told(w.p.State()))
	}
	last := from(t, alone(lastPid))
	last.add(0)
	wantErrno(t, "Kill of the last pid", last.kill(lastPid), api.OK)
	wantErrno(t, "Kill of the pid behind", last.kill(lastPid+1), api.ErrProcPid)
	wantErrno(t, "Kill of a pid of more bits", last.kill(1+1<<32), api.ErrProcPid)
}

// A zombie stays as it is, whether it was killed or not.
func TestKillZombies(t *testing.T) {
	for _, killed := range []bool{false, true} {
		w := grown(t, 0)
		for slot := range 2 {
			if killed {
				w.kill(slot + 1)
			}
			w.end(slot, math.MinInt32)
			was := w.p.Look(slot)
			wantErrno(t, "Kill", w.kill(slot+1), api.OK)
			if got := w.p.Look(slot); got != was || got.Killed != killed || got.Status != math.MinInt32 {
				t.Errorf("Kill makes of %+v %+v", was, got)
			}
		}
	}
}

// P13.14: whatever is tried, a killed one sleeps no more.
func TestKilledNeverSleeps(t *testing.T) {
	w := grown(t, 0)
	w.kill(2)
	good, _ := channels()
	for _, c := range good {
		wantErrno(t, "Sleep", w.sleep(1, c), api.ErrProcState)
		w.wake(c)
	}
	w.renew()
	wantErrno(t, "Sleep", w.sleep(1, timeAt(1)), api.ErrProcState)
	w.end(1, 1)
	wantErrno(t, "Sleep of a zombie", w.sleep(1, timeAt(1)), api.ErrProcState)
}
