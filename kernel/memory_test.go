package kernel_test

// DOC.md, Memory: what is handed in is neither changed nor kept, what is handed out is new.

import (
	"reflect"
	"testing"

	"hartix/api"
	"hartix/kernel"
)

// roomy gives a list with spare room behind its end, and the whole of it.
func roomy[T any](list []T, spare T) (short, whole []T) {
	whole = append(append(append([]T(nil), list...), spare), spare)
	return whole[:len(list)], whole
}

// talk reads a line and prints it, over and over.
const talk = "again: li a0, 0\nla a1, line\nli a2, 20\nli a7, 5\necall\nmv a2, a0\nli a0, 1\nla a1, line\nli a7, 16\necall\nj again\n.bss\nline: .zero 20"

func talkScript(t *testing.T) api.Script {
	s := script(t, talk)
	s.Ticks = []int{5, 40, 80, 150}
	s.Inputs = []api.Input{{At: 20, Data: []byte("one\n")}, {At: 60, Data: []byte("two\n")}, {At: 200, Data: []byte("three\n")}}
	return s
}

// copyOf gives a script that shares nothing with another one.
func copyOf(s api.Script) api.Script {
	s.Ticks = append([]int(nil), s.Ticks...)
	s.Inputs = append([]api.Input(nil), s.Inputs...)
	for i := range s.Inputs {
		s.Inputs[i].Data = append([]byte(nil), s.Inputs[i].Data...)
	}
	s.Files = append([]api.BootFile(nil), s.Files...)
	for i := range s.Files {
		s.Files[i].Data = append([]byte(nil), s.Files[i].Data...)
	}
	return s
}

// spoil overwrites all that a script's lists hold.
func spoil(s api.Script) {
	for i := range s.Inputs {
		clear(s.Inputs[i].Data)
	}
	for i := range s.Files {
		clear(s.Files[i].Data)
	}
	clear(s.Inputs)
	clear(s.Files)
	clear(s.Ticks)
}

// dotScript prints a dot at each tick.
func dotScript(t *testing.T) api.Script {
	s := script(t, "again: "+sys(api.SysSleep, "1")+"li a0, 1\nla a1, dot\nli a2, 1\nli a7, 16\necall\nj again\n.data\ndot: .ascii \".\"")
	s.Ticks = []int{30, 60, 90, 200}
	return s
}

func TestScriptsAreNotKept(t *testing.T) {
	for output, s := range map[string]api.Script{"one\none\ntwo\ntwo\nthree\nthree\n": talkScript(t), "....": dotScript(t)} {
		whole, err := kernel.Run(s)
		if err != nil || string(whole.Output) != output {
			t.Fatalf("%+v, %v", whole, err)
		}
		for at := range whole.Halt.Step {
			spoilAt(t, s, at, whole)
		}
	}
}

// spoilAt overwrites a script when its machine has come to a step: the run goes on as if nothing were.
func spoilAt(t *testing.T, s api.Script, at int, whole api.Report) {
	t.Helper()
	own := copyOf(s)
	m, err := kernel.Boot(own)
	if err != nil {
		t.Fatal(err)
	}
	for m.At() < at {
		m.Step()
	}
	spoil(own)
	halt, over := m.Step()
	for !over {
		halt, over = m.Step()
	}
	if halt != whole.Halt || string(m.Output()) != string(whole.Output) {
		t.Fatalf("spoilt at %d: %+v, %q", at, halt, m.Output())
	}
}

func TestScriptsAreNotChanged(t *testing.T) {
	s := talkScript(t)
	var ticks []int
	var inputs []api.Input
	var files []api.BootFile
	var typed, program []byte
	s.Inputs[0].Data, typed = roomy(s.Inputs[0].Data, 0x55)
	s.Files[0].Data, program = roomy(s.Files[0].Data, 0x55)
	s.Ticks, ticks = roomy(s.Ticks, 77)
	s.Inputs, inputs = roomy(s.Inputs, api.Input{At: 77})
	s.Files, files = roomy(s.Files, api.BootFile{Path: "spare"})
	lists := []any{ticks, inputs, files, typed, program}
	before := []any{append([]int(nil), ticks...), append([]api.Input(nil), inputs...), append([]api.BootFile(nil), files...), append([]byte(nil), typed...), append([]byte(nil), program...)}
	scripts, all := roomy([]api.Script{s, s}, api.Script{Frames: 5})
	if _, err := kernel.Run(s); err != nil {
		t.Fatal(err)
	}
	if reports, n := kernel.RunAll(scripts, nil); n != 2 || len(reports) != 2 {
		t.Fatalf("%+v, %d", reports, n)
	}
	if !reflect.DeepEqual(lists, before) || all[2].Frames != 5 || all[3].Frames != 5 || !reflect.DeepEqual(all[:2], []api.Script{s, s}) {
		t.Error("what was handed in is changed")
	}
}

// full fills a list's spare room too.
func full[T any](list []T, with T) {
	list = list[:cap(list)]
	for i := range list {
		list[i] = with
	}
}

func TestOutputsAreNew(t *testing.T) {
	m, err := kernel.Boot(talkScript(t))
	if err != nil {
		t.Fatal(err)
	}
	for over := false; !over; {
		one, two := m.Output(), m.Output()
		full(one, 'x')
		if string(two) != string(m.Output()) {
			t.Fatalf("at %d: %q, then %q", m.At(), two, m.Output())
		}
		_, over = m.Step()
	}
	if string(m.Output()) != "one\none\ntwo\ntwo\nthree\nthree\n" {
		t.Errorf("%q", m.Output())
	}
}

func TestReportsAreNew(t *testing.T) {
	s := talkScript(t)
	want, err := kernel.Run(s)
	if err != nil {
		t.Fatal(err)
	}
	reports, _ := kernel.RunAll([]api.Script{s, s, s}, nil)
	again, _ := kernel.RunAll([]api.Script{s, s}, nil)
	alone, _ := kernel.Run(s)
	full(reports[1].Output, 'x')
	full(reports[1].Steps, count(9, 9))
	full(reports[:2:2], api.Report{})
	full(alone.Output, 'y')
	full(alone.Steps, count(8, 8))
	for _, r := range []api.Report{reports[2], again[0], again[1]} {
		if !reflect.DeepEqual(r, want) {
			t.Errorf("%+v, want %+v", r, want)
		}
	}
	if other, _ := kernel.Run(s); !reflect.DeepEqual(other, want) {
		t.Errorf("%+v, want %+v", other, want)
	}
}

// TestRefusalsAreNew refuses twice: two faults.
func TestRefusalsAreNew(t *testing.T) {
	for _, s := range []api.Script{{}, refused(t)} {
		_, one := kernel.Boot(s)
		_, two := kernel.Boot(s)
		a, b := one.(*api.Fault), two.(*api.Fault)
		if a == b {
			t.Error("one fault for two refusals")
		}
		if below, is := a.Err.(*api.Fault); is && below == b.Err {
			t.Error("one fault of the layer below for two refusals")
		}
	}
}

// TestTwoMachines steps two machines of one script in turn: they share nothing.
func TestTwoMachines(t *testing.T) {
	s := talkScript(t)
	one, two := begin(t, s), begin(t, s)
	for {
		_, over := one.step()
		two.step()
		if over {
			return
		}
	}
}
