package proc_test

// P13.1 to P13.3: a new table, Look, Room and Add.

import (
	"math"
	"testing"

	"hartix/api"
	"hartix/proc"
)

// crowd gives a table in which every slot has a process.
func crowd(t *testing.T) *world {
	t.Helper()
	w := begin(t)
	for slot := range places {
		if got, pid, errno := w.add(slot / 2); got != slot || pid != slot+1 || errno != api.OK {
			t.Fatalf("Add = %d, %d, %d", got, pid, errno)
		}
	}
	return w
}

// alone gives the state with the first process alone, and a next pid.
func alone(next int) api.ProcTable {
	s := api.ProcTable{Next: next}
	s.Slots[0] = api.Proc{Pid: 1, State: api.ProcRun}
	return s
}

func TestNew(t *testing.T) {
	p, q := proc.New(), proc.New()
	empty := api.ProcTable{Next: 1}
	if p == nil || p.State() != empty || !p.Room() {
		t.Fatal("New is not empty")
	}
	p.Add(0)
	p.Add(0)
	if q.State() != empty || proc.New().State() != empty {
		t.Error("two tables are one")
	}
	wantPick(t, q, 0, -1, false)
	wantZombie(t, q, 0, -1, false)
}

func TestLook(t *testing.T) {
	w := grown(t, 0, 1)
	w.sleep(2, timeAt(9))
	for slot, want := range []api.Proc{
		{Pid: 1, State: api.ProcRun},
		{Pid: 2, State: api.ProcRun},
		{Pid: 3, State: api.ProcSleep, Parent: 1, Chan: timeAt(9)},
		{},
	} {
		if got := w.p.Look(slot); got != want {
			t.Errorf("Look(%d) = %+v, want %+v", slot, got, want)
		}
	}
	for _, slot := range []int{math.MinInt, -1, 3, 63, 64, 1 << 32, math.MaxInt} {
		if got := w.p.Look(slot); got != (api.Proc{}) {
			t.Errorf("Look(%d) = %+v", slot, got)
		}
	}
}

// The first one's parent is not looked at, whatever it is; it is slot 0's.
func TestAddFirst(t *testing.T) {
	for _, parent := range slots() {
		w := begin(t)
		w.add(parent)
		if got := w.p.Look(0); got != (api.Proc{Pid: 1, State: api.ProcRun}) {
			t.Errorf("Add(%d): %+v", parent, got)
		}
	}
}

func TestAddByParent(t *testing.T) {
	for _, parent := range slots() {
		w := grown(t, 0, 0, 1)
		w.end(1, 0)
		w.sleep(2, timeAt(1))
		w.kill(4)
		slot, pid, errno := w.add(parent)
		switch parent {
		case 0, 2, 3:
			if slot != 4 || pid != 5 || errno != api.OK || w.p.Look(4) != (api.Proc{Pid: 5, State: api.ProcRun, Parent: parent}) {
				t.Errorf("Add(%d) = %d, %d, %d: %+v", parent, slot, pid, errno, w.p.Look(4))
			}
		default:
			if slot != -1 || pid != -1 || errno != api.ErrProcParent {
				t.Errorf("Add(%d) = %d, %d, %d", parent, slot, pid, errno)
			}
		}
	}
}

// Behind the first process's end it has no child more, but others may have.
func TestAddBehindTheFirst(t *testing.T) {
	w := grown(t, 0)
	w.end(0, 3)
	wantAdd(t, w.p, 0, -1, -1, api.ErrProcParent)
	if slot, pid, errno := w.add(1); slot != 2 || pid != 3 || errno != api.OK {
		t.Errorf("Add(1) = %d, %d, %d", slot, pid, errno)
	}
}

// A slot that is free again is taken before those behind it; a pid is never given again.
func TestAddLeastSlot(t *testing.T) {
	w := crowd(t)
	for _, slots := range [][]int{{63}, {1}, {40, 7, 23}, {62, 63, 1, 2}, {5}} {
		for _, slot := range slots {
			w.end(slot, 1)
			if errno := w.free(slot); errno != api.OK {
				t.Fatalf("Free(%d) = %d", slot, errno)
			}
		}
		last := 0
		for range slots {
			slot, _, errno := w.add(0)
			if errno != api.OK || slot <= last {
				t.Fatalf("Add = %d behind %d, %d", slot, last, errno)
			}
			last = slot
		}
		if slot, pid, errno := w.add(0); slot != -1 || pid != -1 || errno != api.ErrProcFull {
			t.Errorf("Add to a full table = %d, %d, %d", slot, pid, errno)
		}
	}
	if next := w.p.State().Next; next != 64+10+1 {
		t.Errorf("the next pid is %d", next)
	}
}

// Of several reasons the parent is the first, then the pids, then the slots.
func TestAddReasonsInOrder(t *testing.T) {
	s := crowd(t).p.State()
	full := from(t, s)
	if full.p.Room() {
		t.Error("a full table has room")
	}
	wantAdd(t, full.p, 0, -1, -1, api.ErrProcFull)
	wantAdd(t, full.p, 64, -1, -1, api.ErrProcParent)
	full.end(9, 0)
	wantAdd(t, full.p, 9, -1, -1, api.ErrProcParent)
	s.Next = lastPid + 1
	both := from(t, s)
	wantAdd(t, both.p, 0, -1, -1, api.ErrProcPids)
	wantAdd(t, both.p, -1, -1, -1, api.ErrProcParent)
	if both.p.State() != s || both.p.Room() {
		t.Error("a refusal changes the table")
	}
}

// The last pid is given; from then on none, for ever.
func TestPids(t *testing.T) {
	w := from(t, alone(lastPid-1))
	for k := range 2 {
		if slot, pid, errno := w.add(0); slot != k+1 || pid != lastPid-1+k || errno != api.OK {
			t.Fatalf("Add = %d, %d, %d", slot, pid, errno)
		}
	}
	for slot := range 3 {
		w.add(slot)
		wantAdd(t, w.p, slot, -1, -1, api.ErrProcPids)
	}
	for slot := range 2 {
		w.end(slot+1, 0)
		w.free(slot + 1)
	}
	w.renew()
	w.add(0)
	wantAdd(t, w.p, 0, -1, -1, api.ErrProcPids)
	if w.p.Room() || w.p.State() != alone(lastPid+1) {
		t.Errorf("%+v", w.p.State().Next)
	}
}

// Room is whether Add of the first process would go well, in tables of all numbers of processes.
func TestRoom(t *testing.T) {
	w := begin(t)
	for range places + 1 {
		room := w.p.Room()
		if _, _, errno := w.add(0); (errno == api.OK) != room {
			t.Errorf("Room = %v, Add: %d", room, errno)
		}
	}
	for _, next := range []int{2, lastPid - 1, lastPid, lastPid + 1} {
		if got := from(t, alone(next)).p.Room(); got != (next <= lastPid) {
			t.Errorf("with %d as the next pid: Room = %v", next, got)
		}
	}
	w.end(7, 0)
	if w.p.Room() {
		t.Error("a zombie is room")
	}
	w.free(7)
	if !w.p.Room() {
		t.Error("a freed slot is no room")
	}
}
