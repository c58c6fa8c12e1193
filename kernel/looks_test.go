package kernel_test

// P16.4, and a machine that Boot did not give.

import (
	"testing"

	"hartix/api"
	"hartix/kernel"
)

func TestMachinesThatBootDidNotGive(t *testing.T) {
	for _, m := range []*kernel.Machine{nil, {}, new(kernel.Machine)} {
		for range 2 {
			if halt, over := m.Step(); halt != (api.Halt{}) || !over {
				t.Errorf("Step: %+v, %v", halt, over)
			}
			if slot, on := m.On(); slot != -1 || on {
				t.Errorf("On: %d, %v", slot, on)
			}
			if m.At() != 0 || m.Output() != nil || m.Os() != nil || m.Ram() != nil {
				t.Errorf("%d, %v, %v, %v", m.At(), m.Output(), m.Os(), m.Ram())
			}
		}
	}
}

func TestOnBehindEachEnd(t *testing.T) {
	sleep := sys(api.SysSleep, "1")
	kill := "li a7, 1\necall\nbnez a0, on\n" + sys(api.SysKill, "1") + "here: j here\non: " + sleep + "here2: j here2"
	for name, c := range map[string]struct {
		text   string
		budget int
		halt   api.Halt
		on     int
	}{
		"budget, on the hart": {"here: j here", 20, onBudget(20), 0},
		"budget, asleep":      {sleep, 3, onBudget(3), -1},
		"exit":                {exit(7), 20, onExit(7, 2), -1},
		"fault":               {"nop\nebreak", 20, onExit(-1, 1), -1},
		"idle":                {sleep, 20, onIdle(3), -1},
		"killed by another":   {kill, 40, onExit(-1, 12), -1},
	} {
		t.Run(name, func(t *testing.T) {
			s := script(t, c.text)
			s.Budget = c.budget
			if name == "killed by another" {
				s.Ticks = []int{12}
			}
			w := begin(t, s)
			w.want("the end", w.toEnd(), c.halt)
			w.isOn(c.on, c.halt.Step)
			w.step()
			w.isOn(c.on, c.halt.Step)
		})
	}
}

// TestNothingIsDoneBehindTheEnd steps on behind each end: whoever could run does not.
func TestNothingIsDoneBehindTheEnd(t *testing.T) {
	for _, text := range []string{"here: j here", "li a7, 1\necall\nbeqz a0, here\n" + exit(3) + "here: j here", sys(api.SysSleep, "5")} {
		s := script(t, text)
		s.Budget = 30
		s.Ticks = []int{10, 31, 40}
		s.Inputs = []api.Input{{At: 30, Data: []byte("never")}, {At: 31, Data: []byte("never")}}
		w := begin(t, s)
		halt := w.toEnd()
		for range 20 {
			again, over := w.step()
			w.want("behind the end", []any{again, over}, []any{halt, true})
		}
	}
}

func TestOsAndRamAreTheSameAlways(t *testing.T) {
	w := begin(t, script(t, five))
	o, r := w.m.Os(), w.m.Ram()
	w.toEnd()
	if w.m.Os() != o || w.m.Ram() != r || o == nil || r == nil {
		t.Error("another system, or another memory")
	}
}

// TestOutputAsItGoes tells what was printed as soon as it is.
func TestOutputAsItGoes(t *testing.T) {
	s := script(t, "li a0, 1\nla a1, text\nli a2, 3\nli a7, 16\necall\nhere: j here\n.data\ntext: .ascii \"one\"")
	s.Inputs = []api.Input{{At: 9, Data: []byte("two")}}
	w := begin(t, s)
	w.steps(5)
	w.want("ahead of the call", string(w.m.Output()), "")
	w.steps(1)
	w.want("behind it", string(w.m.Output()), "one")
	w.steps(3)
	w.want("ahead of the input", string(w.m.Output()), "one")
	w.steps(1)
	w.want("behind it", string(w.m.Output()), "onetwo")
}
