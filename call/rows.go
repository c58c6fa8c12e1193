package call

import (
	"hartix/api"
	"hartix/space"
)

// caller is a process that does a call, and that call as far as it has come.
type caller struct {
	*Os
	*task
	slot int
	call api.Pending
}

// outcome is what a row comes to.
type outcome interface {
	next() int // what the call's face answers
}

type (
	answered uint64   // what a0 has from now on
	asleep   api.Chan // what the caller sleeps on, in the midst of the call
	gone     int32    // the status with which the caller has ended
	begun    struct { // another program, in the old one's place
		space *space.Space
		regs  api.Regs
	}
)

func (answered) next() int { return api.NextUser }
func (asleep) next() int   { return api.NextSleep }
func (gone) next() int     { return api.NextGone }
func (begun) next() int    { return api.NextUser }

const (
	refused  answered = 1<<64 - 1 // -1
	killed   gone     = -1
	insnSize          = 4
)

// row is what a call does.
type row struct {
	do func(c *caller) outcome
}

// rowOf tells the row of a number, all bits of which count.
func rowOf(number uint64) row {
	rows := [...]row{
		0:             {(*caller).noCall},
		api.SysFork:   {(*caller).fork},
		api.SysExit:   {(*caller).exit},
		api.SysWait:   {(*caller).wait},
		api.SysPipe:   {(*caller).pipe},
		api.SysRead:   {(*caller).read},
		api.SysKill:   {(*caller).kill},
		api.SysExec:   {(*caller).exec},
		api.SysFstat:  {(*caller).fstat},
		api.SysChdir:  {(*caller).chdir},
		api.SysDup:    {(*caller).dup},
		api.SysGetpid: {(*caller).getpid},
		api.SysSbrk:   {(*caller).sbrk},
		api.SysSleep:  {(*caller).sleep},
		api.SysUptime: {(*caller).uptime},
		api.SysOpen:   {(*caller).open},
		api.SysWrite:  {(*caller).write},
		api.SysMknod:  {(*caller).mknod},
		api.SysUnlink: {(*caller).unlink},
		api.SysLink:   {(*caller).link},
		api.SysMkdir:  {(*caller).mkdir},
		api.SysClose:  {(*caller).close},
	}
	if number >= uint64(len(rows)) {
		number = 0
	}
	return rows[number]
}

func (c *caller) noCall() outcome { return refused }

// Call does the call that a process's registers ask for (P15.4).
func (o *Os) Call(slot int) int {
	c := o.callerIn(slot)
	switch {
	case c == nil || c.inCall():
		return 0
	case c.isKilled():
		return c.finish(killed)
	}
	regs := c.regsOf(c.task)
	regs.Pc += insnSize
	c.setRegs(c.task, regs)
	c.call = api.Pending{
		Num:  int(regs.X[api.RegA7]),
		Args: [3]uint64{regs.X[api.RegA0], regs.X[api.RegA1], regs.X[api.RegA2]},
	}
	return c.finish(c.ask())
}

// GoOn goes on with the call in whose midst a process is (P15.5).
func (o *Os) GoOn(slot int) int {
	c := o.callerIn(slot)
	switch {
	case c == nil || !c.inCall():
		return 0
	case c.isKilled():
		return c.finish(killed)
	}
	c.call = c.pending
	return c.finish(c.ask())
}

// callerIn gives the process in a slot that can run; nil, if there is none.
func (o *Os) callerIn(slot int) *caller {
	t := o.taskIn(slot)
	if t == nil || o.procs.Look(slot).State != api.ProcRun {
		return nil
	}
	return &caller{Os: o, task: t, slot: slot}
}

func (c *caller) isKilled() bool { return c.procs.Look(c.slot).Killed }

// ask asks the call's row. Rows fetch their arguments ahead of their first change, so that one that can't be fetched leaves nothing half done.
func (c *caller) ask() (out outcome) {
	defer func() {
		if recover() != nil {
			out = refused
		}
	}()
	return rowOf(uint64(c.call.Num)).do(c)
}

// finish does to the process what its call has come to.
func (c *caller) finish(out outcome) int {
	c.pending = api.Pending{}
	switch out := out.(type) {
	case answered:
		regs := c.regsOf(c.task)
		regs.X[api.RegA0] = uint64(out)
		c.setRegs(c.task, regs)
	case asleep:
		c.pending = c.call
		c.procs.Sleep(c.slot, api.Chan(out))
	case gone:
		c.End(c.slot, int32(out))
	case begun:
		c.space.Free()
		c.space = out.space
		c.setRegs(c.task, out.regs)
	}
	return out.next()
}
