package proc_test

// The chapter's examples.

import (
	"testing"

	"hartix/api"
	"hartix/proc"
)

func wantAdd(t *testing.T, p *proc.Table, parent, slot, pid int, errno api.Errno) {
	t.Helper()
	if s, n, e := p.Add(parent); s != slot || n != pid || e != errno {
		t.Errorf("Add(%d) = %d, %d, %d, want %d, %d, %d", parent, s, n, e, slot, pid, errno)
	}
}

func wantPick(t *testing.T, p *proc.Table, last, slot int, ok bool) {
	t.Helper()
	if s, found := p.Pick(last); s != slot || found != ok {
		t.Errorf("Pick(%d) = %d, %v, want %d, %v", last, s, found, slot, ok)
	}
}

func wantEnd(t *testing.T, p *proc.Table, slot int, status int32, some bool, errno api.Errno) {
	t.Helper()
	if s, e := p.End(slot, status); s != some || e != errno {
		t.Errorf("End(%d, %d) = %v, %d, want %v, %d", slot, status, s, e, some, errno)
	}
}

func wantZombie(t *testing.T, p *proc.Table, parent, slot int, some bool) {
	t.Helper()
	if s, any := p.Zombie(parent); s != slot || any != some {
		t.Errorf("Zombie(%d) = %d, %v, want %d, %v", parent, s, any, slot, some)
	}
}

func wantErrno(t *testing.T, what string, got, want api.Errno) {
	t.Helper()
	if got != want {
		t.Errorf("%s: %d, want %d", what, got, want)
	}
}

func example1(t *testing.T) *proc.Table {
	p := proc.New()
	if !p.Room() {
		t.Error("a new table has no room")
	}
	wantAdd(t, p, 9, 0, 1, api.OK)
	wantAdd(t, p, 0, 1, 2, api.OK)
	wantAdd(t, p, 1, 2, 3, api.OK)
	return p
}

func TestExample1(t *testing.T) {
	p := example1(t)
	wantAdd(t, p, 5, -1, -1, api.ErrProcParent)
	wantPick(t, p, -1, 0, true)
	wantPick(t, p, 0, 1, true)
	wantPick(t, p, 2, 0, true)
	wantPick(t, p, 99, 0, true)
}

func example2(t *testing.T) *proc.Table {
	p := example1(t)
	wantErrno(t, "Sleep", p.Sleep(1, timeAt(4)), api.OK)
	wantErrno(t, "Sleep again", p.Sleep(1, timeAt(4)), api.ErrProcState)
	wantErrno(t, "Sleep again", p.Sleep(1, api.Chan{}), api.ErrProcState)
	wantErrno(t, "Sleep on none", p.Sleep(2, api.Chan{Kind: api.ChanNone}), api.ErrProcChan)
	wantErrno(t, "Sleep on -1", p.Sleep(2, api.Chan{Kind: api.ChanRead, N: -1}), api.ErrProcChan)
	wantErrno(t, "Sleep of nobody", p.Sleep(9, api.Chan{Kind: api.ChanNone}), api.ErrProcSlot)
	wantPick(t, p, 0, 2, true)
	if n := p.Wake(timeAt(5)); n != 0 {
		t.Errorf("Wake = %d", n)
	}
	wantErrno(t, "Kill", p.Kill(2), api.OK)
	if q := p.Look(1); q != (api.Proc{Pid: 2, State: api.ProcRun, Killed: true}) {
		t.Errorf("Look(1) = %+v", q)
	}
	wantErrno(t, "Sleep of a killed one", p.Sleep(1, timeAt(4)), api.ErrProcState)
	return p
}

func TestExamples2To4(t *testing.T) {
	p := example2(t)
	wantEnd(t, p, 2, 7, false, api.OK)
	wantZombie(t, p, 1, 2, true)
	wantEnd(t, p, 1, -1, true, api.OK)
	wantZombie(t, p, 0, 1, true)
	wantErrno(t, "Free(0)", p.Free(0), api.ErrProcSlot)
	wantErrno(t, "Free(3)", p.Free(3), api.ErrProcSlot)
	wantErrno(t, "Free(1)", p.Free(1), api.OK)
	wantZombie(t, p, 0, 2, true)
	wantErrno(t, "Free(2)", p.Free(2), api.OK)
	wantZombie(t, p, 0, -1, false)
	wantAdd(t, p, 0, 1, 4, api.OK)

	wantEnd(t, p, 0, 5, false, api.OK)
	first := api.Proc{Pid: 1, State: api.ProcZombie, Status: 5}
	if q := p.Look(0); q != first {
		t.Errorf("Look(0) = %+v", q)
	}
	wantAdd(t, p, 0, -1, -1, api.ErrProcParent)
	wantErrno(t, "Free(0)", p.Free(0), api.ErrProcSlot)
	wantErrno(t, "Kill(1)", p.Kill(1), api.OK)
	if q := p.Look(0); q != first {
		t.Errorf("behind Kill: Look(0) = %+v", q)
	}
}

func TestExample5(t *testing.T) {
	p, err := proc.From(crowd(t).p.State())
	if err != nil || p.Room() {
		t.Errorf("64 processes: room; %v", err)
	}
	wantAdd(t, p, 0, -1, -1, api.ErrProcFull)
	s := api.ProcTable{Next: api.MaxPid + 1}
	s.Slots[0] = api.Proc{Pid: 1, State: api.ProcRun}
	p, err = proc.From(s)
	if err != nil || p.Room() {
		t.Errorf("the last pid is given: room; %v", err)
	}
	wantAdd(t, p, 0, -1, -1, api.ErrProcPids)
}
