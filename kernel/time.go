package kernel

import (
	"hartix/api"
	"hartix/hart"
)

// failed is the status of a process that did not exit by itself.
const failed = -1

func (m *Machine) isOver() bool { return m.halt != api.Halt{} }

func (m *Machine) end(code int, status int32) {
	m.halt = api.Halt{Code: code, Status: status, Step: m.k}
}

// endsHere ends the run, if the first process has ended.
func (m *Machine) endsHere() bool {
	status, ended := m.system.Ended()
	if ended {
		m.end(api.HaltExit, status)
	}
	return ended
}

// comesToStep does what is ahead of a step: somebody is on the hart then, or, if it tells false, the run has ended.
func (m *Machine) comesToStep() bool {
again:
	for m.k < m.budget {
		for m.isInput() {
			m.trap(api.CauseDevice)
		}
		if m.isTick() {
			m.trap(api.CauseTimer)
		}
		for m.on == nobody {
			switch {
			case m.pick():
				if m.endsHere() {
					return false
				}
			case m.isAwaited():
				m.k = m.nextEvent()
				continue again
			default:
				m.end(api.HaltIdle, 0)
				return false
			}
		}
		return true
	}
	m.end(api.HaltBudget, 0)
	return false
}

// isInput tells whether an input comes ahead of step k.
func (m *Machine) isInput() bool { return len(m.inputs) > 0 && m.inputs[0].At == m.k }

// isTick tells whether the timer fires ahead of step k.
func (m *Machine) isTick() bool { return len(m.ticks) > 0 && m.ticks[0] == m.k }

// nextEvent tells the step of the first tick or input that is still to come; the budget, if none comes below it.
func (m *Machine) nextEvent() int {
	next := m.budget
	if len(m.ticks) > 0 {
		next = min(next, m.ticks[0])
	}
	if len(m.inputs) > 0 {
		next = min(next, m.inputs[0].At)
	}
	return next
}

// isAwaited tells whether there is still something that may wake somebody.
func (m *Machine) isAwaited() bool { return m.nextEvent() < m.budget }

// pick gives the next that can run its turn; false: nobody can. Who ends, or sleeps again, has had it.
func (m *Machine) pick() bool {
	slot, found := m.system.Pick(m.last)
	if !found {
		return false
	}
	m.last = slot
	inCall, killed := m.system.Doing(slot)
	switch {
	case killed:
		m.system.End(slot, failed)
	case !inCall || m.system.GoOn(slot) == api.NextUser:
		m.on = slot
	}
	return true
}

// do does an instruction of the process on the hart, and what follows from it.
func (m *Machine) do() {
	m.tally.count(m.on)
	root, _ := m.system.Root(m.on)
	regs, _ := m.system.Regs(m.on)
	after, trap := hart.Step(m.memory, root, regs)
	if trap.Taken {
		m.trap(trap.Cause)
	} else {
		m.system.SetRegs(m.on, after)
	}
	if !m.endsHere() {
		m.k++
	}
}
