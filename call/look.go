package call

import "hartix/api"

// Look tells the whole system as plain data (P15.9).
func (o *Os) Look() api.OsLook {
	if !o.isMade() {
		return api.OsLook{}
	}
	l := api.OsLook{Tramp: trampoline, Console: o.console.State(), Ticks: o.ticks, NextPid: o.procs.State().Next, Free: o.memory.Count()}
	for slot, t := range o.tasks.taken() {
		l.Procs = append(l.Procs, o.lookAt(slot, t))
	}
	for f := range api.MaxFiles {
		if look := o.files.Look(f); look.Kind != api.FileNone {
			l.Files = append(l.Files, look)
		}
	}
	for ino := range api.MaxInodes {
		if look := o.tree.Look(ino); look.Ino != 0 {
			l.Inodes = append(l.Inodes, look)
		}
	}
	for p := range api.MaxPipes {
		if look, there := o.files.Pipes(p); there {
			l.Pipes = append(l.Pipes, look)
		}
	}
	return l
}

// lookAt tells a process.
func (o *Os) lookAt(slot int, t *task) api.ProcLook {
	p := o.procs.Look(slot)
	l := api.ProcLook{
		Slot: slot, Pid: p.Pid, State: p.State, Parent: p.Parent, Chan: p.Chan, Killed: p.Killed, Status: p.Status,
		Regs: o.regsOf(t), Size: t.space.Size(), Frame: t.frame, Root: t.space.Root(),
		Fds: t.fds, Cwd: t.cwd, InCall: t.inCall(), Pending: t.pending,
	}
	l.Nodes, l.Pages = t.space.Look()
	return l
}
