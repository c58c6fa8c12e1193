package call

import (
	"hartix/api"
	"hartix/space"
)

func (c *caller) fork() outcome {
	pages := c.space.Pages()
	if !c.procs.Room() || c.memory.Count() < 1+pages+space.Nodes(pages) {
		return refused
	}
	child := &task{fds: c.fds, cwd: c.cwd}
	child.frame, _ = c.memory.Alloc()
	child.space, _ = c.space.Copy(child.frame)
	for _, f := range child.fds {
		c.files.Hold(f) // of a descriptor that is none this is refused
	}
	c.tree.Hold(child.cwd)
	regs := c.regsOf(c.task)
	regs.X[api.RegA0] = 0
	c.setRegs(child, regs)
	slot, pid, _ := c.procs.Add(c.slot)
	c.tasks[slot] = child
	return answered(pid)
}

func (c *caller) exit() outcome { return gone(c.number(0)) }

// End ends a process (P15.6).
func (o *Os) End(slot int, status int32) {
	t := o.taskIn(slot)
	if t == nil || o.procs.Look(slot).State == api.ProcZombie {
		return
	}
	for fd := range t.fds {
		o.shut(t, fd)
	}
	o.tree.Drop(t.cwd)
	t.cwd, t.pending = 0, api.Pending{}
	zombies, _ := o.procs.End(slot, status)
	o.wake(forChild(o.procs.Look(slot).Parent))
	if zombies {
		o.wake(forChild(firstSlot))
	}
}

func (c *caller) wait() outcome {
	zombie, children := c.procs.Zombie(c.slot)
	switch {
	case !children:
		return refused
	case zombie < 0:
		return asleep(forChild(c.slot))
	}
	dead := c.procs.Look(zombie)
	if at := c.call.Args[0]; at != 0 {
		c.out(at, appendNumber(nil, 4, uint64(dead.Status)))
	}
	c.bury(zombie)
	return answered(dead.Pid)
}

// bury gives back all that a zombie still has.
func (o *Os) bury(slot int) {
	t := o.tasks[slot]
	t.space.Free()
	o.memory.Free(t.frame)
	o.procs.Free(slot)
	o.tasks[slot] = nil
}

func (c *caller) kill() outcome {
	if c.procs.Kill(c.number(0)) != api.OK {
		return refused
	}
	return answered(0)
}

func (c *caller) getpid() outcome { return answered(c.procs.Look(c.slot).Pid) }

func (c *caller) sbrk() outcome {
	size, errno := int(c.space.Size()), api.OK
	switch to := size + c.number(0); {
	case to < 0:
		return refused
	case to < size:
		errno = c.space.Shrink(uint64(to))
	default:
		errno = c.space.Grow(uint64(to), api.PteR|api.PteW)
	}
	if errno != api.OK {
		return refused
	}
	return answered(size)
}

// sleep begins without a time up to which it goes, which is never 0.
func (c *caller) sleep() outcome {
	n := c.number(0)
	if n < 1 {
		return answered(0)
	}
	if c.call.Due == 0 {
		c.call.Due = c.ticks + uint64(n)
	}
	if c.ticks < c.call.Due {
		return asleep(forTime())
	}
	return answered(0)
}

func (c *caller) uptime() outcome { return answered(c.ticks) }

// exec has its frames while the old space still has its own: so a refusal leaves that as it is.
func (c *caller) exec() outcome {
	path, args := c.text(0), c.texts(c.call.Args[1])
	ino, errno := c.tree.Find(c.cwd, path)
	if errno != api.OK || c.tree.Stat(ino).Type != api.TypeFile {
		return refused
	}
	program, errno := c.load(ino, args, c.frame)
	if errno != api.OK {
		return refused
	}
	return program
}
