package kernel_test

// Of a machine whose system or memory somebody else has changed nothing is promised but that each call ends (and so that it does not panic).

import (
	"testing"

	"hartix/api"
	"hartix/kernel"
)

// damages are what somebody may do to what was handed over.
func damages(s *scatter) map[string]func(m *kernel.Machine) {
	slot := func() int { return s.below(8) - 1 }
	return map[string]func(m *kernel.Machine){
		"end":     func(m *kernel.Machine) { m.Os().End(slot(), 3) },
		"end all": func(m *kernel.Machine) { endAll(m) },
		"call":    func(m *kernel.Machine) { m.Os().Call(slot()) },
		"go on":   func(m *kernel.Machine) { m.Os().GoOn(slot()) },
		"tick":    func(m *kernel.Machine) { m.Os().Tick() },
		"type":    func(m *kernel.Machine) { m.Os().Type(byte(pick(s, 'x', '\n', s.below(256)))) },
		"regs": func(m *kernel.Machine) {
			regs := api.Regs{Pc: pick(s, 0, 4, s.next())}
			for i := range regs.X {
				regs.X[i] = pick(s, 0, 1, uint64(s.below(30)), s.next())
			}
			m.Os().SetRegs(slot(), regs)
		},
		"free": func(m *kernel.Machine) {
			for _, held := range m.Ram().Image().Held {
				if s.below(6) == 0 {
					m.Ram().Free(held.Pa)
				}
			}
		},
		"free all": func(m *kernel.Machine) {
			for _, held := range m.Ram().Image().Held {
				m.Ram().Free(held.Pa)
			}
		},
		"alloc": func(m *kernel.Machine) {
			for range s.below(80) {
				m.Ram().Alloc()
			}
		},
		"write": func(m *kernel.Machine) {
			for _, held := range m.Ram().Image().Held {
				m.Ram().Store(held.Pa+uint64(s.below(512))*8, 8, pick(s, 0, s.next(), held.Pa>>2|uint64(s.below(256))))
			}
		},
	}
}

func endAll(m *kernel.Machine) {
	for slot := range api.MaxProcs {
		m.Os().End(slot, 1)
	}
}

func TestDamaged(t *testing.T) {
	s := scatter(10)
	for name, damage := range damages(&s) {
		t.Run(name, func(t *testing.T) {
			for range 25 {
				playDamaged(t, drawScript(t, &s), func(m *kernel.Machine) { damage(m) }, 1+s.below(20))
			}
		})
	}
}

// playDamaged steps to the end, with a damage every so many steps.
func playDamaged(t *testing.T, script api.Script, damage func(m *kernel.Machine), every int) {
	m, err := kernel.Boot(script)
	if err != nil {
		return
	}
	for n := range script.Budget + 1 {
		if n%every == 0 {
			damage(m)
		}
		m.On()
		m.At()
		m.Output()
		if _, over := m.Step(); over {
			return
		}
	}
	t.Errorf("no end within %d Steps", script.Budget+1)
}
