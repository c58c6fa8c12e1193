package kernel

import "hartix/api"

// trap does what a trap's cause asks for. What is none of these a process has done wrong.
func (m *Machine) trap(cause uint64) {
	does := map[uint64]func(){
		api.CauseCall:   m.call,
		api.CauseTimer:  m.tick,
		api.CauseDevice: m.input,
	}
	do, known := does[cause]
	if !known {
		do = m.fail
	}
	do()
}

// call does the call that the process on the hart asks for.
func (m *Machine) call() {
	place := m.freeSlot()
	next := m.system.Call(m.on)
	m.welcome(place)
	switch _, killed := m.system.Doing(m.on); {
	case next != api.NextUser:
		m.on = nobody
	case killed:
		m.fail()
	}
}

// freeSlot tells the least slot that is free, where a child would be; MaxProcs, if none is.
func (m *Machine) freeSlot() int {
	for slot := range api.MaxProcs {
		if _, taken := m.system.Root(slot); !taken {
			return slot
		}
	}
	return api.MaxProcs
}

// welcome begins to count for the child that a call has brought into a slot, if it has. Its pid is what its parent was answered.
func (m *Machine) welcome(slot int) {
	if _, born := m.system.Root(slot); born {
		parent, _ := m.system.Regs(m.on)
		m.tally.begin(slot, int(parent.X[api.RegA0]))
	}
}

// fail ends the process on the hart.
func (m *Machine) fail() {
	m.system.End(m.on, failed)
	m.on = nobody
}

// tick lets the timer fire.
func (m *Machine) tick() {
	m.ticks = m.ticks[1:]
	m.system.Tick()
	m.on = nobody
}

// input lets an input come.
func (m *Machine) input() {
	for _, b := range m.inputs[0].Data {
		m.system.Type(b)
	}
	m.inputs = m.inputs[1:]
}
