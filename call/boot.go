package call

import (
	"hartix/api"
	"hartix/console"
	"hartix/exec"
	"hartix/file"
	"hartix/proc"
	"hartix/ram"
	"hartix/tree"
)

func fault(at int, reason api.Errno) error {
	return &api.Fault{Layer: "call", At: at, Err: reason}
}

// trampoline is the frame that all spaces have at their end.
const trampoline = api.RamBase

// New begins: the tree with the boot files, the console, the first process (P15.1).
func New(r *ram.Ram, files []api.BootFile, first string) (*Os, error) {
	if len(files) > api.MaxBoot {
		return nil, fault(api.MaxBoot, api.ErrCallBoot)
	}
	t, errno := tree.New(r)
	if errno != api.OK {
		return nil, fault(-1, api.ErrCallRoom)
	}
	o := &Os{memory: r, tree: t, console: console.New(), procs: proc.New()}
	o.files = file.New(o.tree, o.console)
	terminal, _ := t.Make(api.RootIno, "console", api.TypeDev, api.ConsoleDev, 0)
	for at, f := range files {
		if errno := o.put(f); errno != api.OK {
			return nil, fault(at, errno)
		}
	}
	if errno := o.begin(first, terminal); errno != api.OK {
		return nil, fault(len(files), errno)
	}
	return o, nil
}

// put makes a boot file.
func (o *Os) put(f api.BootFile) api.Errno {
	if !makesSense(f) {
		return api.ErrCallBoot
	}
	ino, errno := o.tree.Make(api.RootIno, f.Path, f.Type, f.Major, f.Minor)
	switch {
	case errno != api.OK:
		return errno
	case len(f.Data) > 0 && o.tree.Write(ino, 0, f.Data) < len(f.Data):
		return api.ErrCallRoom
	}
	return api.OK
}

// makesSense tells whether a boot file has nothing that its type can't have.
func makesSense(f api.BootFile) bool {
	hasData, hasNumbers := len(f.Data) > 0, f.Major != 0 || f.Minor != 0
	switch f.Type {
	case api.TypeDir:
		return !hasData && !hasNumbers
	case api.TypeFile:
		return !hasNumbers
	case api.TypeDev:
		return !hasData
	}
	return false
}

// begin makes the first process.
func (o *Os) begin(path string, terminal int) api.Errno {
	ino, errno := o.tree.Find(api.RootIno, path)
	if errno != api.OK {
		return errno
	}
	if stat := o.tree.Stat(ino); stat.Type != api.TypeFile || stat.Size > api.MaxElf {
		return api.ErrCallInit
	}
	frame, ok := o.memory.Alloc()
	if !ok {
		return api.ErrCallRoom
	}
	program, errno := o.load(ino, []string{path}, frame)
	if errno != api.OK {
		return errno
	}
	t := &task{space: program.space, frame: frame, fds: noDescriptors(), cwd: api.RootIno}
	t.fds[0], _ = o.files.Open(terminal, true, true)
	t.fds[1], t.fds[2] = t.fds[0], t.fds[0]
	o.files.Hold(t.fds[1])
	o.files.Hold(t.fds[2])
	o.tree.Hold(t.cwd)
	o.setRegs(t, program.regs)
	slot, _, _ := o.procs.Add(firstSlot)
	o.tasks[slot] = t
	return api.OK
}

// load lays a file's program and its arguments into a new space with that trapframe.
func (o *Os) load(ino int, args []string, frame uint64) (begun, api.Errno) {
	s, start, errno := exec.Load(o.memory, o.tree.Read(ino, 0, api.MaxElf), args, frame, trampoline)
	if errno != api.OK {
		return begun{}, errno
	}
	regs := api.Regs{Pc: start.Entry}
	regs.X[api.RegSP], regs.X[api.RegA0], regs.X[api.RegA1] = start.Sp, uint64(len(args)), start.Argv
	return begun{space: s, regs: regs}, api.OK
}
