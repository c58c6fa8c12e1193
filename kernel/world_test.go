package kernel_test

// A machine beside the model: both do each step, and behind it everything that can be looked at is held against each other.

import (
	"reflect"
	"strconv"
	"strings"
	"testing"

	"hartix/api"
	"hartix/asm"
	"hartix/elf"
	"hartix/kernel"
)

// program gives a text as a file.
func program(t *testing.T, text string) []byte {
	t.Helper()
	i, err := asm.Assemble(text)
	if err != nil {
		t.Fatalf("%v in:\n%s", err, text)
	}
	b, err := elf.Write(asm.Program(i))
	if err != nil {
		t.Fatal(err)
	}
	return b
}

func fileOf(path string, data []byte) api.BootFile {
	return api.BootFile{Path: path, Type: api.TypeFile, Data: data}
}

// script has one program, and a budget of 300.
func script(t *testing.T, text string) api.Script {
	t.Helper()
	return api.Script{Frames: 64, Init: "/init", Budget: 300, Files: []api.BootFile{fileOf("/init", program(t, text))}}
}

// sys is the lines that make a call; an argument is what li takes.
func sys(number int, args ...string) string {
	var b strings.Builder
	for i, a := range args {
		b.WriteString("li a" + strconv.Itoa(i) + ", " + a + "\n")
	}
	b.WriteString("li a7, " + strconv.Itoa(number) + "\necall\n")
	return b.String()
}

// spin does n + n + 1 instructions that are no calls.
func spin(label string, n int) string {
	return "li t0, " + strconv.Itoa(n) + "\n" + label + ": addi t0, t0, -1\nbnez t0, " + label + "\n"
}

func exit(status int) string { return sys(api.SysExit, strconv.Itoa(status)) }

type world struct {
	t     *testing.T
	m     *kernel.Machine
	model *model
}

func begin(t *testing.T, s api.Script) *world {
	t.Helper()
	m, err := kernel.Boot(s)
	if err != nil {
		t.Fatalf("Boot: %v", err)
	}
	w := &world{t: t, m: m, model: newModel(t, s)}
	w.check("Boot")
	return w
}

func (w *world) step() (api.Halt, bool) {
	w.t.Helper()
	at := w.m.At()
	halt, over := w.m.Step()
	wantHalt, wantOver := w.model.step()
	if halt != wantHalt || over != wantOver {
		w.t.Fatalf("Step at %d: %+v, %v, want %+v, %v", at, halt, over, wantHalt, wantOver)
	}
	w.check("the step at " + strconv.Itoa(at))
	return halt, over
}

// steps does steps that do not end the run.
func (w *world) steps(n int) {
	w.t.Helper()
	for range n {
		if halt, over := w.step(); over {
			w.t.Fatalf("ended: %+v", halt)
		}
	}
}

// toEnd steps to the end; a false answer's Halt is zero, and the end's stays.
func (w *world) toEnd() api.Halt {
	w.t.Helper()
	for {
		halt, over := w.step()
		if over {
			w.step()
			w.want("the memory at the end", w.m.Ram().Image(), w.model.r.Image())
			return halt
		}
		w.want("the Halt of a step that ends nothing", halt, api.Halt{})
	}
}

func (w *world) check(behind string) {
	w.t.Helper()
	slot, on := w.m.On()
	if slot != w.model.on || on != (w.model.on >= 0) || w.m.At() != w.model.k {
		w.t.Fatalf("behind %s: On %d, %v, At %d, want %d, At %d", behind, slot, on, w.m.At(), w.model.on, w.model.k)
	}
	if got, want := w.m.Output(), w.model.o.Output(); string(got) != string(want) || (got == nil) != (len(want) == 0) {
		w.t.Fatalf("behind %s: Output %q, want %q", behind, got, want)
	}
	if got, want := w.m.Os().Look(), w.model.o.Look(); !reflect.DeepEqual(got, want) {
		w.t.Fatalf("behind %s: the system is\n%+v, want\n%+v", behind, got, want)
	}
}

func (w *world) want(what string, got, want any) {
	w.t.Helper()
	if !reflect.DeepEqual(got, want) {
		w.t.Fatalf("%s: %+v, want %+v", what, got, want)
	}
}

// isOn asks for who is on the hart (-1: nobody), and for k.
func (w *world) isOn(slot, k int) {
	w.t.Helper()
	got, on := w.m.On()
	w.want("On and At", []any{got, on, w.m.At()}, []any{slot, slot >= 0, k})
}

// runs plays a script, step by step beside the model and by Run, and asks for its outcome.
func runs(t *testing.T, s api.Script, halt api.Halt, output string, steps ...api.PidSteps) {
	t.Helper()
	w := begin(t, s)
	w.want("the end", w.toEnd(), halt)
	w.want("what was printed", string(w.m.Output()), output)
	r, err := kernel.Run(s)
	if err != nil {
		t.Fatalf("Run: %v", err)
	}
	w.want("Run", r, w.model.told())
	w.want("Run's halt", r.Halt, halt)
	w.want("Run's counts", r.Steps, steps)
}

func count(pid, steps int) api.PidSteps { return api.PidSteps{Pid: pid, Steps: steps} }

func onExit(status int32, step int) api.Halt {
	return api.Halt{Code: api.HaltExit, Status: status, Step: step}
}

func onBudget(step int) api.Halt { return api.Halt{Code: api.HaltBudget, Step: step} }

func onIdle(step int) api.Halt { return api.Halt{Code: api.HaltIdle, Step: step} }
