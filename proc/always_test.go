package proc_test

// P13.12, P13.14 and P13.15, as they are held against the table behind every call.

import "hartix/api"

// checkHolds is what holds of every table.
func (w *world) checkHolds(c call, s api.ProcTable) {
	w.t.Helper()
	pids := map[int]bool{}
	for slot, p := range s.Slots {
		switch {
		case p == api.Proc{}:
			continue
		case p.Pid < 1 || p.Pid >= s.Next || pids[p.Pid]:
			w.t.Fatalf("behind %+v: slot %d has the pid %d, the next is %d", c, slot, p.Pid, s.Next)
		case s.Slots[0].Pid != 1 || s.Slots[0].Parent != 0:
			w.t.Fatalf("behind %+v: slot 0 has not the first process", c)
		case slot > 0 && p.Parent > 0 && s.Slots[p.Parent].State == api.ProcZombie:
			w.t.Fatalf("behind %+v: the parent of slot %d has ended", c, slot)
		case p.State == api.ProcSleep && w.killed[p.Pid]:
			w.t.Fatalf("behind %+v: slot %d sleeps, and was killed", c, slot)
		case p.State != api.ProcSleep && p.Chan != api.Chan{}:
			w.t.Fatalf("behind %+v: slot %d does not sleep, on %v", c, slot, p.Chan)
		}
		pids[p.Pid] = true
		w.checkChain(c, s, slot)
	}
}

// checkChain goes from parent to parent, up to the first process.
func (w *world) checkChain(c call, s api.ProcTable, slot int) {
	w.t.Helper()
	at := slot
	for range places {
		if at == 0 {
			return
		}
		if at = s.Slots[at].Parent; s.Slots[at].State == api.ProcFree {
			break
		}
	}
	w.t.Fatalf("behind %+v: the parents of slot %d don't lead to slot 0", c, slot)
}

// checkTurns is what may become of a process by a call.
func (w *world) checkTurns(c call, s api.ProcTable) {
	w.t.Helper()
	if s.Next < w.was.Next || s.Next > w.was.Next+1 || s.Next > w.was.Next && c.name != "Add" {
		w.t.Fatalf("behind %+v: the next pid goes from %d to %d", c, w.was.Next, s.Next)
	}
	for slot, p := range s.Slots {
		was := w.was.Slots[slot]
		if was == p {
			continue
		}
		if !w.mayTurn(c, slot, was, p) {
			w.t.Fatalf("%+v makes of slot %d %+v, where %+v was", c, slot, p, was)
		}
		if p.Killed {
			w.killed[p.Pid] = true
		}
	}
}

// mayTurn tells whether a call may make of a slot something else; both are not the same.
func (w *world) mayTurn(c call, slot int, was, p api.Proc) bool {
	if was.State == api.ProcFree {
		return c.name == "Add" && c.slot == slot && p.State == api.ProcRun && p.Pid == w.was.Next
	}
	if p.State == api.ProcFree {
		return c.name == "Free" && c.slot == slot && was.State == api.ProcZombie && slot > 0
	}
	turned := was
	if p.Parent != was.Parent {
		turned.Parent = 0
		return c.name == "End" && was.Parent == c.slot && turned == p
	}
	switch c.name {
	case "Sleep":
		turned.State, turned.Chan = api.ProcSleep, c.on
		return slot == c.slot && was.State == api.ProcRun && !was.Killed && turned == p
	case "Wake", "WakeOne":
		turned.State, turned.Chan = api.ProcRun, api.Chan{}
		named := c.name == "Wake" && was.Chan == c.on || c.name == "WakeOne" && slot == c.slot
		return named && was.State == api.ProcSleep && turned == p
	case "Kill":
		turned.State, turned.Chan, turned.Killed = api.ProcRun, api.Chan{}, true
		return was.Pid == c.pid && was.State != api.ProcZombie && turned == p
	case "End":
		turned.State, turned.Chan, turned.Status = api.ProcZombie, api.Chan{}, p.Status
		return slot == c.slot && was.State != api.ProcZombie && turned == p
	}
	return false
}
