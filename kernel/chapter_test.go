package kernel_test

// DOC.md's Time read a second time: every step is gone through, those too in which nobody does anything; who can run, who was killed and who is in the midst of a call is read from the system's look.

import (
	"slices"
	"testing"

	"hartix/api"
	"hartix/call"
	"hartix/hart"
	"hartix/ram"
)

type model struct {
	s     api.Script
	r     *ram.Ram
	o     *call.Os
	k     int
	on    int // -1: nobody
	last  int
	halt  api.Halt
	steps map[int]int // by pid
}

func newModel(t *testing.T, s api.Script) *model {
	t.Helper()
	r, err := ram.New(s.Frames)
	if err != nil {
		t.Fatal(err)
	}
	o, err := call.New(r, s.Files, s.Init)
	if err != nil {
		t.Fatal(err)
	}
	return &model{s: s, r: r, o: o, steps: map[int]int{}}
}

// at looks at a slot; its Pid is 0, if that is free.
func (m *model) at(slot int) api.ProcLook {
	for _, p := range m.o.Look().Procs {
		if p.Slot == slot {
			return p
		}
	}
	return api.ProcLook{}
}

// firstEnded ends the run where the first process, which looks so, has ended.
func (m *model) firstEnded(first api.ProcLook) bool {
	if first.Slot != 0 || first.State != api.ProcZombie {
		return false
	}
	m.halt, m.on = api.Halt{Code: api.HaltExit, Status: first.Status, Step: m.k}, -1
	return true
}

func (m *model) step() (api.Halt, bool) {
	for m.halt.Code == 0 {
		if m.k == m.s.Budget {
			m.halt = api.Halt{Code: api.HaltBudget, Step: m.k}
			break
		}
		m.events()
		for m.on < 0 && m.turn() && m.halt.Code == 0 {
		}
		if m.halt.Code != 0 {
			break
		}
		if m.on >= 0 {
			m.instruction()
			return m.halt, m.halt.Code != 0
		}
		if !m.comes() {
			m.halt = api.Halt{Code: api.HaltIdle, Step: m.k}
			break
		}
		m.pass()
	}
	return m.halt, true
}

func (m *model) events() {
	for _, input := range m.s.Inputs {
		if input.At == m.k {
			for _, b := range input.Data {
				m.o.Type(b)
			}
		}
	}
	if slices.Contains(m.s.Ticks, m.k) {
		m.o.Tick()
		m.on = -1
	}
}

// turn gives one process its turn; false: none can run.
func (m *model) turn() bool {
	var can [64]*api.ProcLook
	for _, p := range m.o.Look().Procs {
		if p.State == api.ProcRun {
			can[p.Slot] = &p
		}
	}
	for i := 1; i <= 64; i++ {
		p := can[(m.last+i)%64]
		if p == nil {
			continue
		}
		m.last = p.Slot
		if p.Killed {
			m.o.End(p.Slot, -1)
			m.firstEnded(m.at(p.Slot))
		} else if !p.InCall {
			m.on = p.Slot
		} else if m.o.GoOn(p.Slot); m.at(p.Slot).State == api.ProcRun {
			m.on = p.Slot
		}
		return true
	}
	return false
}

// comes tells whether a tick or an input comes above k and below the budget.
func (m *model) comes() bool {
	comes := func(at int) bool { return at > m.k && at < m.s.Budget }
	return slices.ContainsFunc(m.s.Ticks, comes) || slices.ContainsFunc(m.s.Inputs, func(i api.Input) bool { return comes(i.At) })
}

// pass lets the steps go by in which nobody does anything.
func (m *model) pass() {
	isEvent := func() bool {
		return slices.Contains(m.s.Ticks, m.k) || slices.ContainsFunc(m.s.Inputs, func(i api.Input) bool { return i.At == m.k })
	}
	for m.k++; !isEvent(); m.k++ {
	}
}

func (m *model) instruction() {
	p := m.at(m.on)
	m.steps[p.Pid]++
	after, trap := hart.Step(m.r, p.Root, p.Regs)
	switch {
	case !trap.Taken:
		m.o.SetRegs(m.on, after)
		m.k++
		return
	case trap.Cause == 8:
		m.o.Call(m.on)
		if p := m.at(m.on); p.State == api.ProcRun && p.Killed {
			m.o.End(m.on, -1)
		}
	default:
		m.o.End(m.on, -1)
	}
	if p = m.at(m.on); m.firstEnded(p) {
		return
	}
	if p.State != api.ProcRun {
		m.on = -1
	}
	m.k++
}

// told gives the report that Run gives, once the model has ended.
func (m *model) told() api.Report {
	r := api.Report{Halt: m.halt, Output: m.o.Output()}
	for pid, n := range m.steps {
		r.Steps = append(r.Steps, api.PidSteps{Pid: pid, Steps: n})
	}
	slices.SortFunc(r.Steps, func(a, b api.PidSteps) int { return a.Pid - b.Pid })
	return r
}
