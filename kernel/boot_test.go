package kernel_test

// P16.1 and P16.2.

import (
	"errors"
	"testing"

	"hartix/api"
	"hartix/call"
	"hartix/kernel"
	"hartix/ram"
)

// rising gives n numbers from a first one on.
func rising(first, n int) []int {
	var l []int
	for i := range n {
		l = append(l, first+i)
	}
	return l
}

// typed gives inputs that have so many bytes each, all at step 0.
func typed(sizes ...int) []api.Input {
	var l []api.Input
	for _, n := range sizes {
		l = append(l, api.Input{Data: make([]byte, n)})
	}
	return l
}

func inputsAt(steps ...int) []api.Input {
	var l []api.Input
	for _, k := range steps {
		l = append(l, api.Input{At: k})
	}
	return l
}

const huge = 1<<63 - 1

func TestBootRefuses(t *testing.T) {
	good := script(t, five)
	for name, c := range map[string]struct {
		with func(s *api.Script)
		at   int
		err  api.Errno
	}{
		"no frames":              {func(s *api.Script) { s.Frames = 0 }, 0, api.ErrKernelFrames},
		"15 frames":              {func(s *api.Script) { s.Frames = 15 }, 0, api.ErrKernelFrames},
		"4097 frames":            {func(s *api.Script) { s.Frames = 4097 }, 0, api.ErrKernelFrames},
		"frames below 0":         {func(s *api.Script) { s.Frames = -64 }, 0, api.ErrKernelFrames},
		"huge frames":            {func(s *api.Script) { s.Frames = huge }, 0, api.ErrKernelFrames},
		"least frames":           {func(s *api.Script) { s.Frames = -huge - 1 }, 0, api.ErrKernelFrames},
		"budget below 0":         {func(s *api.Script) { s.Budget = -1 }, 0, api.ErrKernelBudget},
		"budget of 2^20 + 1":     {func(s *api.Script) { s.Budget = 1<<20 + 1 }, 0, api.ErrKernelBudget},
		"huge budget":            {func(s *api.Script) { s.Budget = huge }, 0, api.ErrKernelBudget},
		"tick below 0":           {func(s *api.Script) { s.Ticks = []int{-1, 5} }, 0, api.ErrKernelTicks},
		"least tick":             {func(s *api.Script) { s.Ticks = []int{-huge - 1} }, 0, api.ErrKernelTicks},
		"later tick below 0":     {func(s *api.Script) { s.Ticks = []int{0, 7, -7} }, 2, api.ErrKernelTicks},
		"a tick twice":           {func(s *api.Script) { s.Ticks = []int{0, 0} }, 1, api.ErrKernelTicks},
		"falling ticks":          {func(s *api.Script) { s.Ticks = []int{2, 9, 8, 7} }, 2, api.ErrKernelTicks},
		"tick behind the last":   {func(s *api.Script) { s.Ticks = []int{huge, huge} }, 1, api.ErrKernelTicks},
		"tick 0 behind the last": {func(s *api.Script) { s.Ticks = []int{huge, 0} }, 1, api.ErrKernelTicks},
		"4097 ticks":             {func(s *api.Script) { s.Ticks = rising(0, 4097) }, 4096, api.ErrKernelTicks},
		"4097 wrong ticks":       {func(s *api.Script) { s.Ticks = make([]int, 4097) }, 4096, api.ErrKernelTicks},
		"last of 4096 ticks":     {func(s *api.Script) { s.Ticks = append(rising(0, 4095), 9) }, 4095, api.ErrKernelTicks},
		"input below 0":          {func(s *api.Script) { s.Inputs = inputsAt(-1) }, 0, api.ErrKernelInputs},
		"later input below 0":    {func(s *api.Script) { s.Inputs = inputsAt(0, -1) }, 1, api.ErrKernelInputs},
		"falling inputs":         {func(s *api.Script) { s.Inputs = inputsAt(3, 3, 4, 3) }, 3, api.ErrKernelInputs},
		"4097 inputs":            {func(s *api.Script) { s.Inputs = make([]api.Input, 4097) }, 4096, api.ErrKernelInputs},
		"4097 wrong inputs":      {func(s *api.Script) { s.Inputs = append(inputsAt(-5), make([]api.Input, 4096)...) }, 4096, api.ErrKernelInputs},
		"65537 bytes":            {func(s *api.Script) { s.Inputs = typed(65537) }, 0, api.ErrKernelInputs},
		"65537 bytes by two":     {func(s *api.Script) { s.Inputs = typed(65536, 1) }, 1, api.ErrKernelInputs},
		"65537 bytes by three":   {func(s *api.Script) { s.Inputs = typed(1, 65535, 0, 1, 1) }, 3, api.ErrKernelInputs},
		"bytes, then below 0":    {func(s *api.Script) { s.Inputs = append(typed(65537), inputsAt(-1)...) }, 0, api.ErrKernelInputs},
		"below 0, then bytes":    {func(s *api.Script) { s.Inputs = append(inputsAt(-1), typed(65537)...) }, 0, api.ErrKernelInputs},
	} {
		t.Run(name, func(t *testing.T) {
			s := good
			c.with(&s)
			isRefused(t, s, c.at, c.err)
		})
	}
}

// TestBootRefusesByTheFirst makes everything wrong, and one after the other right.
func TestBootRefusesByTheFirst(t *testing.T) {
	s := api.Script{Frames: 15, Budget: -1, Ticks: []int{5, 5}, Inputs: inputsAt(6, 5), Init: "/none"}
	isRefused(t, s, 0, api.ErrKernelFrames)
	s.Frames = 16
	isRefused(t, s, 0, api.ErrKernelBudget)
	s.Budget = 0
	isRefused(t, s, 1, api.ErrKernelTicks)
	s.Ticks = nil
	isRefused(t, s, 1, api.ErrKernelInputs)
	s.Inputs = nil
	isRefusedBelow(t, s)
}

// isRefusedBelow asks for the fault of call.New behind one of this layer.
func isRefusedBelow(t *testing.T, s api.Script) {
	t.Helper()
	r, err := ram.New(s.Frames)
	if err != nil {
		t.Fatal(err)
	}
	_, below := call.New(r, s.Files, s.Init)
	var want, f *api.Fault
	if !errors.As(below, &want) {
		t.Fatalf("call.New does not refuse it: %v", below)
	}
	m, err := kernel.Boot(s)
	if m != nil || !errors.As(err, &f) || f.Layer != "kernel" || f.At != 0 {
		t.Fatalf("Boot: %v, %v", m, err)
	}
	got, is := f.Err.(*api.Fault)
	if !is || *got != *want {
		t.Errorf("behind it: %v, want %v", f.Err, want)
	}
	report, err := kernel.Run(s)
	if !isEmpty(report) || !errors.As(err, &f) || f.Layer != "kernel" || !errors.Is(err, want.Err) {
		t.Errorf("Run: %+v, %v", report, err)
	}
}

func TestBootRefusesWithCall(t *testing.T) {
	good := script(t, five)
	for name, with := range map[string]func(s *api.Script){
		"no such file":   func(s *api.Script) { s.Init = "/none" },
		"no name":        func(s *api.Script) { s.Init = "" },
		"a directory":    func(s *api.Script) { s.Init = "/" },
		"no program":     func(s *api.Script) { s.Files[0].Data = []byte("text") },
		"no files":       func(s *api.Script) { s.Files = nil },
		"65 files":       func(s *api.Script) { s.Files = make([]api.BootFile, 65) },
		"a wrong type":   func(s *api.Script) { s.Files = append(s.Files, api.BootFile{Path: "/x", Type: 4}) },
		"a path twice":   func(s *api.Script) { s.Files = append(s.Files, s.Files[0]) },
		"too few frames": func(s *api.Script) { s.Frames, s.Files[0].Data = 16, make([]byte, 15*4096) },
		"a big program": func(s *api.Script) {
			s.Frames, s.Files[0].Data = 16, program(t, "nop\n.bss\n.zero 40000")
		},
	} {
		t.Run(name, func(t *testing.T) {
			s := good
			s.Files = append([]api.BootFile(nil), good.Files...)
			with(&s)
			isRefusedBelow(t, s)
		})
	}
}

func TestBootTakesTheEdges(t *testing.T) {
	good := script(t, five)
	for name, with := range map[string]func(s *api.Script){
		"16 frames":          func(s *api.Script) { s.Frames = 16 },
		"4096 frames":        func(s *api.Script) { s.Frames = 4096 },
		"budget of 2^20":     func(s *api.Script) { s.Budget = 1 << 20 },
		"4096 ticks":         func(s *api.Script) { s.Ticks = rising(1000, 4096) },
		"a tick never to be": func(s *api.Script) { s.Ticks = []int{huge} },
		"4096 inputs":        func(s *api.Script) { s.Inputs = make([]api.Input, 4096) },
		"an input never":     func(s *api.Script) { s.Inputs = inputsAt(huge, huge) },
		"65536 bytes":        func(s *api.Script) { s.Inputs = []api.Input{{At: 500, Data: make([]byte, 65536)}} },
		"65536 bytes by more": func(s *api.Script) {
			s.Inputs = []api.Input{{At: 500, Data: make([]byte, 65535)}, {At: 501, Data: []byte("x")}}
		},
		"empty lists": func(s *api.Script) { s.Ticks, s.Inputs = []int{}, []api.Input{} },
	} {
		t.Run(name, func(t *testing.T) {
			s := good
			with(&s)
			w := begin(t, s)
			w.isOn(0, 0)
			w.want("frames", w.m.Ram().Frames(), s.Frames)
			runs(t, s, onExit(5, 2), "", count(1, 3))
		})
	}
}

func TestBudgetsAtTheEdge(t *testing.T) {
	s := script(t, "here: j here")
	s.Budget = 1 << 20
	r, err := kernel.Run(s)
	if err != nil || r.Halt != onBudget(1<<20) || len(r.Steps) != 1 || r.Steps[0] != count(1, 1<<20) {
		t.Errorf("%+v, %v", r, err)
	}
	s.Budget = 0
	s.Ticks, s.Inputs = []int{0}, []api.Input{{Data: []byte("x")}}
	runs(t, s, onBudget(0), "")
}

// TestBeginning is P16.2: of the files, of the first process, and of what is on the hart.
func TestBeginning(t *testing.T) {
	s := script(t, five)
	s.Files = append(s.Files, api.BootFile{Path: "/d", Type: api.TypeDir}, fileOf("/d/f", []byte("hello")))
	w := begin(t, s)
	w.isOn(0, 0)
	w.want("Output", w.m.Output(), []byte(nil))
	l := w.m.Os().Look()
	w.want("processes", []any{len(l.Procs), l.Procs[0].Pid, l.Procs[0].State, l.Procs[0].Regs.X[10]}, []any{1, 1, api.ProcRun, uint64(1)})
	w.want("ticks, free", []any{l.Ticks, l.Free}, []any{uint64(0), w.m.Ram().Count()})
}
