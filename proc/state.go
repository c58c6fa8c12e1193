package proc

import "hartix/api"

// atNext is where a fault of the next pid is told: no slot has that number.
const atNext = api.MaxProcs

// State tells the whole table (P13.11).
func (t *Table) State() api.ProcTable {
	if !t.isMade() {
		return api.ProcTable{}
	}
	return api.ProcTable{Slots: t.slots, Next: t.next}
}

// From gives the table of that state (P13.11).
func From(s api.ProcTable) (*Table, error) {
	t := &Table{slots: s.Slots, next: s.Next}
	if !t.canBeNext() {
		return nil, wrongAt(atNext)
	}
	for slot := range t.slots {
		if !t.canHave(slot) {
			return nil, wrongAt(slot)
		}
	}
	return t, nil
}

func wrongAt(at int) error { return &api.Fault{Layer: "proc", At: at, Err: api.ErrImage} }

// canBeNext tells whether the next pid may be that: the first one just if nobody was ever there, since the first process stays.
func (t *Table) canBeNext() bool {
	_, some := least(&t.slots, isProcess)
	return t.next >= 1 && t.next <= api.MaxPid+1 && (t.next > 1) == some
}

// canHave tells whether what stands in a slot may stand there. The next pid is looked at already.
func (t *Table) canHave(slot int) bool {
	p := t.slots[slot]
	if isFree(p) {
		return p == api.Proc{} && (slot != first || t.next == 1)
	}
	return t.canHavePid(slot) && t.canHaveParent(slot) && fitsState(p)
}

// canHavePid tells whether a process's pid was given, and to nobody else: one that two have is the earlier slot's.
func (t *Table) canHavePid(slot int) bool {
	pid := t.slots[slot].Pid
	if slot == first {
		return pid == 1
	}
	earliest, _ := least(&t.slots, func(p api.Proc) bool { return p.Pid == pid })
	return pid >= 1 && pid < t.next && earliest == slot
}

func (t *Table) canHaveParent(slot int) bool {
	p := t.slots[slot]
	if slot == first {
		return p.Parent == first
	}
	parent := t.slots.at(p.Parent)
	if parent == nil || isFree(*parent) || parent.Pid >= p.Pid {
		return false
	}
	return parent.State != api.ProcZombie || p.Parent == first
}

// fitsState tells whether a process has what its state lets it have.
func fitsState(p api.Proc) bool {
	switch p.State {
	case api.ProcRun:
		return p.Chan == api.Chan{} && p.Status == 0
	case api.ProcSleep:
		return isChan(p.Chan) && !p.Killed && p.Status == 0
	case api.ProcZombie:
		return p.Chan == api.Chan{}
	}
	return false
}
