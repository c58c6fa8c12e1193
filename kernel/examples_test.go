package kernel_test

// The chapter's examples, word by word.

import (
	"errors"
	"testing"

	"hartix/api"
	"hartix/kernel"
)

const five = "li a7, 2\nli a0, 5\necall\n"

func TestExample1(t *testing.T) {
	s := script(t, five)
	s.Budget = 100
	w := begin(t, s)
	w.isOn(0, 0)
	w.steps(1)
	w.isOn(0, 1)
	w.steps(1)
	w.isOn(0, 2)
	halt, over := w.step()
	w.want("the third", []any{halt, over}, []any{api.Halt{Code: api.HaltExit, Status: 5, Step: 2}, true})
	runs(t, s, onExit(5, 2), "", count(1, 3))
	s.Budget = 2
	runs(t, s, onBudget(2), "", count(1, 2))
	s.Budget = 0
	runs(t, s, onBudget(0), "")
}

func sleepTwo(t *testing.T) api.Script {
	s := script(t, sys(api.SysSleep, "2")+five)
	s.Budget = 100
	return s
}

func TestExample2(t *testing.T) {
	s := sleepTwo(t)
	s.Ticks = []int{10, 50}
	w := begin(t, s)
	w.steps(2)
	w.isOn(0, 2)
	w.steps(1)
	w.isOn(-1, 3)
	w.steps(1)
	w.isOn(0, 51)
	w.want("ticks", w.m.Os().Look().Ticks, uint64(2))
	runs(t, s, onExit(5, 52), "", count(1, 6))
}

func TestExample3(t *testing.T) { runs(t, sleepTwo(t), onIdle(3), "", count(1, 3)) }

func TestExample4(t *testing.T) {
	good := script(t, five)
	for _, c := range []struct {
		with func(s *api.Script)
		at   int
		err  api.Errno
	}{
		{func(s *api.Script) { s.Ticks = []int{3, 3} }, 1, api.ErrKernelTicks},
		{func(s *api.Script) { s.Ticks = []int{-1} }, 0, api.ErrKernelTicks},
		{func(s *api.Script) { s.Inputs = []api.Input{{At: 5}, {At: 4}} }, 1, api.ErrKernelInputs},
		{func(s *api.Script) { s.Frames = 15 }, 0, api.ErrKernelFrames},
		{func(s *api.Script) { s.Budget = 1<<20 + 1 }, 0, api.ErrKernelBudget},
	} {
		s := good
		c.with(&s)
		isRefused(t, s, c.at, c.err)
	}
}

func TestExample5(t *testing.T) {
	good := script(t, five)
	bad := good
	bad.Init = "/none"
	reports, n := kernel.RunAll([]api.Script{good, bad, good}, nil)
	if n != 1 || len(reports) != 1 || reports[0].Halt != onExit(5, 2) {
		t.Errorf("RunAll: %+v, %d", reports, n)
	}
}

// isRefused asks Boot, Run and RunAll for a refusal of this layer.
func isRefused(t *testing.T, s api.Script, at int, err api.Errno) {
	t.Helper()
	m, got := kernel.Boot(s)
	var f *api.Fault
	if m != nil || !errors.As(got, &f) || *f != (api.Fault{Layer: "kernel", At: at, Err: err}) {
		t.Errorf("Boot: %v, %v, want %d at %d", m, got, err, at)
	}
	r, got := kernel.Run(s)
	if !isEmpty(r) || !errors.As(got, &f) || *f != (api.Fault{Layer: "kernel", At: at, Err: err}) {
		t.Errorf("Run: %+v, %v, want %d at %d", r, got, err, at)
	}
	if reports, n := kernel.RunAll([]api.Script{s}, nil); reports != nil || n != 0 {
		t.Errorf("RunAll: %+v, %d", reports, n)
	}
}

func isEmpty(r api.Report) bool {
	return r.Halt == api.Halt{} && r.Output == nil && r.Steps == nil
}
