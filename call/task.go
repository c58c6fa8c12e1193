package call

import (
	"hartix/api"
	"hartix/space"
)

// task is what a process has beside its place in the table of processes (P15.2).
type task struct {
	space   *space.Space
	frame   uint64 // the trapframe
	fds     descriptors
	cwd     int         // 0 of a zombie
	pending api.Pending // the call in whose midst it is; zero: none, since no call has the number 0
}

func (t *task) inCall() bool { return t.pending != api.Pending{} }

// descriptors has the open file of each descriptor.
type descriptors [api.MaxFds]int

// noFile is what a descriptor has that is none.
const noFile = -1

func noDescriptors() descriptors {
	var d descriptors
	for fd := range d {
		d[fd] = noFile
	}
	return d
}

// of gives the open file of a descriptor, noFile for a number that may not be too.
func (d *descriptors) of(fd int) int {
	if fd < 0 || fd >= len(d) {
		return noFile
	}
	return d[fd]
}

// free gives the descriptors that are none, rising.
func (d *descriptors) free() []int {
	var free []int
	for fd, f := range d {
		if f == noFile {
			free = append(free, fd)
		}
	}
	return free
}

const (
	wordSize = 8
	regsSize = 32 * wordSize // bytes of a trapframe in which registers lie
)

// regsOf reads a trapframe. The place that x0 would have is the program counter's: x0 is always 0.
func (o *Os) regsOf(t *task) api.Regs {
	var regs api.Regs
	b, _ := o.memory.Read(t.frame, regsSize)
	for i, low := range b {
		regs.X[i/wordSize] |= uint64(low) << (8 * (i % wordSize))
	}
	regs.Pc, regs.X[0] = regs.X[0], 0
	return regs
}

// setRegs fills a trapframe.
func (o *Os) setRegs(t *task, regs api.Regs) {
	regs.X[0] = regs.Pc
	b := make([]byte, 0, regsSize)
	for _, x := range regs.X {
		b = appendNumber(b, wordSize, x)
	}
	o.memory.Write(t.frame, b)
}

// appendNumber appends the lowest bytes of a number, the low byte first.
func appendNumber(b []byte, size int, v uint64) []byte {
	for range size {
		b = append(b, byte(v))
		v >>= 8
	}
	return b
}
