package proc_test

// The chapter read a second time: a list of beings in the order of their pids, each of which knows its parent itself, not a slot.

import (
	"slices"

	"hartix/api"
)

const (
	places  = 64
	lastPid = 2147483647
)

type being struct {
	pid    int
	slot   int
	parent *being // nil: the first process
	asleep bool
	ended  bool
	on     api.Chan
	killed bool
	status int32
}

type plain struct {
	all   []*being
	given int // the last pid that was given
}

func (m *plain) in(slot int) *being {
	for _, b := range m.all {
		if b.slot == slot {
			return b
		}
	}
	return nil
}

func (m *plain) childrenOf(parent *being) []*being {
	var out []*being
	for slot := range places {
		if b := m.in(slot); b != nil && b.parent != nil && b.parent == parent {
			out = append(out, b)
		}
	}
	return out
}

func (m *plain) room() bool { return len(m.all) < places && m.given < lastPid }

func (m *plain) add(parent int) (int, int, api.Errno) {
	var p *being
	if len(m.all) > 0 {
		if p = m.in(parent); p == nil || p.ended {
			return -1, -1, api.ErrProcParent
		}
	}
	if m.given == lastPid {
		return -1, -1, api.ErrProcPids
	}
	slot := 0
	for m.in(slot) != nil {
		slot++
	}
	if slot == places {
		return -1, -1, api.ErrProcFull
	}
	m.given++
	m.all = append(m.all, &being{pid: m.given, slot: slot, parent: p})
	return slot, m.given, api.OK
}

func (m *plain) pick(last int) (int, bool) {
	if last < 0 || last > 63 {
		last = 63
	}
	var can [places]bool
	for _, b := range m.all {
		can[b.slot] = !b.asleep && !b.ended
	}
	for slot := last + 1; slot < places; slot++ {
		if can[slot] {
			return slot, true
		}
	}
	for slot := 0; slot <= last; slot++ {
		if can[slot] {
			return slot, true
		}
	}
	return -1, false
}

func (m *plain) sleep(slot int, c api.Chan) api.Errno {
	b := m.in(slot)
	if b == nil {
		return api.ErrProcSlot
	}
	if b.asleep || b.ended || b.killed {
		return api.ErrProcState
	}
	switch c.Kind {
	case api.ChanChild, api.ChanTime, api.ChanConsole, api.ChanRead, api.ChanWrite:
		if c.N >= 0 {
			b.asleep, b.on = true, c
			return api.OK
		}
	}
	return api.ErrProcChan
}

func (b *being) wake() { b.asleep, b.on = false, api.Chan{} }

func (m *plain) wake(c api.Chan) int {
	n := 0
	for _, b := range m.all {
		if b.asleep && b.on.Kind == c.Kind && b.on.N == c.N {
			b.wake()
			n++
		}
	}
	return n
}

func (m *plain) wakeOne(slot int) api.Errno {
	b := m.in(slot)
	if b == nil {
		return api.ErrProcSlot
	}
	if !b.asleep {
		return api.ErrProcState
	}
	b.wake()
	return api.OK
}

func (m *plain) kill(pid int) api.Errno {
	for _, b := range m.all {
		if b.pid != pid {
			continue
		}
		if !b.ended {
			b.killed = true
			b.wake()
		}
		return api.OK
	}
	return api.ErrProcPid
}

func (m *plain) end(slot int, status int32) (bool, api.Errno) {
	b := m.in(slot)
	if b == nil {
		return false, api.ErrProcSlot
	}
	if b.ended {
		return false, api.ErrProcState
	}
	b.wake()
	b.ended, b.status = true, status
	some := false
	if slot != 0 {
		for _, child := range m.childrenOf(b) {
			child.parent = m.in(0)
			some = some || child.ended
		}
	}
	return some, api.OK
}

func (m *plain) zombie(parent int) (int, bool) {
	b := m.in(parent)
	if b == nil {
		return -1, false
	}
	children := m.childrenOf(b)
	for _, child := range children {
		if child.ended {
			return child.slot, true
		}
	}
	return -1, len(children) > 0
}

func (m *plain) free(slot int) api.Errno {
	b := m.in(slot)
	if b == nil || slot == 0 {
		return api.ErrProcSlot
	}
	if !b.ended {
		return api.ErrProcState
	}
	var left []*being
	for _, other := range m.all {
		if other != b {
			left = append(left, other)
		}
	}
	m.all = left
	return api.OK
}

func (b *being) look() api.Proc {
	p := api.Proc{Pid: b.pid, State: api.ProcRun, Chan: b.on, Killed: b.killed, Status: b.status}
	if b.parent != nil {
		p.Parent = b.parent.slot
	}
	if b.asleep {
		p.State = api.ProcSleep
	}
	if b.ended {
		p.State = api.ProcZombie
	}
	return p
}

func (m *plain) state() api.ProcTable {
	s := api.ProcTable{Next: m.given + 1}
	for _, b := range m.all {
		s.Slots[b.slot] = b.look()
	}
	return s
}

// plainOf reads a state that may be.
func plainOf(s api.ProcTable) *plain {
	m := &plain{given: s.Next - 1}
	for slot, p := range s.Slots {
		if p.State != api.ProcFree {
			m.all = append(m.all, &being{pid: p.Pid, slot: slot, asleep: p.State == api.ProcSleep, ended: p.State == api.ProcZombie, on: p.Chan, killed: p.Killed, status: p.Status})
		}
	}
	slices.SortFunc(m.all, func(a, b *being) int { return a.pid - b.pid })
	for _, b := range m.all {
		if b.slot > 0 {
			b.parent = m.in(s.Slots[b.slot].Parent)
		}
	}
	return m
}
