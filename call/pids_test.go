package call

// The last pid is beyond what a test can reach by forks: the table of processes is laid into the system as it would be then.

import (
	"reflect"
	"testing"

	"hartix/api"
	"hartix/elf"
	"hartix/proc"
	"hartix/ram"
)

func TestForkWithoutPids(t *testing.T) {
	program, err := elf.Write(api.Elf{Segs: []api.Seg{{Flags: api.SegR | api.SegX, Data: []byte{0x73, 0, 0, 0}, Mem: 4}}})
	if err != nil {
		t.Fatal(err)
	}
	r, err := ram.New(64)
	if err != nil {
		t.Fatal(err)
	}
	o, err := New(r, []api.BootFile{{Path: "/p", Type: api.TypeFile, Data: program}}, "/p")
	if err != nil {
		t.Fatal(err)
	}
	state := o.procs.State()
	state.Next = api.MaxPid
	if o.procs, err = proc.From(state); err != nil {
		t.Fatal(err)
	}
	regs := api.Regs{}
	regs.X[api.RegA7] = api.SysFork
	o.SetRegs(0, regs)
	if next := o.Call(0); next != api.NextUser || o.regsOf(o.tasks[0]).X[api.RegA0] != api.MaxPid {
		t.Fatalf("the last pid: %d, %+v", next, o.regsOf(o.tasks[0]))
	}
	o.SetRegs(0, regs)
	want := o.Look()
	want.Procs[0].Regs.Pc = 4
	want.Procs[0].Regs.X[api.RegA0] = 1<<64 - 1
	if next := o.Call(0); next != api.NextUser || !reflect.DeepEqual(o.Look(), want) {
		t.Errorf("no pid is left: %d, %+v, want %+v", next, o.Look(), want)
	}
	if want.NextPid != api.MaxPid+1 {
		t.Errorf("the next pid is %d", want.NextPid)
	}
}
