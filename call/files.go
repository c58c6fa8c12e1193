package call

import "hartix/api"

// shut makes a descriptor none, and lets its open file go (P15.13); of one that is none already Drop is refused, and wakes nobody.
func (o *Os) shut(t *task, fd int) {
	wakes, _ := o.files.Drop(t.fds[fd])
	t.fds[fd] = noFile
	o.wake(wakes...)
}

func (c *caller) close() outcome {
	c.opened(0)
	c.shut(c.task, c.number(0))
	return answered(0)
}

func (c *caller) dup() outcome {
	f, free := c.opened(0), c.fds.free()
	if len(free) == 0 || c.files.Hold(f) != api.OK {
		return refused
	}
	c.fds[free[0]] = f
	return answered(free[0])
}

func (c *caller) pipe() outcome {
	free := c.fds.free()
	files, pipes := c.files.Left()
	if len(free) < 2 || files < 2 || pipes < 1 {
		return refused
	}
	numbers := appendNumber(nil, 4, uint64(free[0]))
	c.out(c.call.Args[0], appendNumber(numbers, 4, uint64(free[1])))
	c.fds[free[0]], c.fds[free[1]], _ = c.files.Pipe()
	return answered(0)
}

// read asks with Peek first: bytes that can't be written must stay.
func (c *caller) read() outcome {
	f, at, n := c.opened(0), c.call.Args[1], c.number(2)
	got := c.files.Peek(f, n)
	switch got.How {
	case api.FileBad:
		return refused
	case api.FileWait:
		return asleep(got.Chan)
	}
	c.out(at, got.Data)
	c.files.Read(f, n)
	c.wake(got.Wake...)
	return answered(len(got.Data))
}

func (c *caller) write() outcome {
	f, n := c.opened(0), c.number(2)
	sent := c.files.Write(f, c.unwritten(n))
	c.printed = append(c.printed, sent.Out...)
	c.wake(sent.Wake...)
	c.call.Done += sent.N
	switch {
	case sent.How == api.FileBad:
		return refused
	case sent.How == api.FileWait:
		return asleep(sent.Chan)
	case c.call.Done == 0 && n > 0:
		return refused
	}
	return answered(c.call.Done)
}

// unwritten gives the bytes of a write that are still to be written. One that goes on, into a pipe, fetches no more than it takes to tell the pipe that it can't have all: else a long one would be fetched again and again.
func (c *caller) unwritten(n int) []byte {
	at, left := c.call.Args[1]+uint64(c.call.Done), n-c.call.Done
	if c.inCall() {
		left = min(left, api.PipeSize+1)
	}
	return c.in(at, left)
}

func (c *caller) fstat() outcome {
	s, errno := c.files.Stat(c.opened(0))
	if errno != api.OK {
		return refused
	}
	var b []byte
	for _, field := range [...]struct {
		size  int
		value uint64
	}{
		{4, uint64(s.Dev)},
		{4, uint64(s.Ino)},
		{2, uint64(s.Type)},
		{2, uint64(s.Nlink)},
		{4, 0},
		{8, s.Size},
	} {
		b = appendNumber(b, field.size, field.value)
	}
	c.out(c.call.Args[1], b)
	return answered(0)
}

// open looks for its places first: a file that it makes must not stay for nothing.
func (c *caller) open() outcome {
	path, mode := c.text(0), c.number(1)
	free := c.fds.free()
	if files, _ := c.files.Left(); len(free) == 0 || files == 0 {
		return refused
	}
	ino, errno := c.tree.Find(c.cwd, path)
	if errno != api.OK && mode&api.OCreate != 0 {
		ino, errno = c.tree.Make(c.cwd, path, api.TypeFile, 0, 0)
	}
	if errno != api.OK || !c.canOpen(ino, mode) {
		return refused
	}
	f, errno := c.files.Open(ino, mode&api.OWronly == 0, mode&(api.OWronly|api.ORdwr) != 0)
	if errno != api.OK {
		return refused
	}
	if mode&api.OTrunc != 0 {
		c.tree.Trunc(ino) // what is no file refuses it
	}
	c.fds[free[0]] = f
	return answered(free[0])
}

// canOpen tells of a directory that it is only read, and not to be made; of a device that somebody is behind it.
func (c *caller) canOpen(ino, mode int) bool {
	switch look := c.tree.Look(ino); look.Type {
	case api.TypeDir:
		return mode == api.ORdonly
	case api.TypeDev:
		return look.Major == api.ConsoleDev
	}
	return true
}
