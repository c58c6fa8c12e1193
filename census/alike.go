package census

import "hartix/api"

// Alike tells whether two systems are the same but for their frames (P17.6).
func Alike(a, b api.OsLook) bool {
	return a.Ticks == b.Ticks && a.NextPid == b.NextPid && a.Free == b.Free &&
		same(a.Procs, b.Procs, sameProc) &&
		same(a.Files, b.Files, equal[api.FileLook]) &&
		same(a.Inodes, b.Inodes, sameInode) &&
		same(a.Pipes, b.Pipes, samePipe) &&
		same(a.Console.Ready, b.Console.Ready, equal[byte]) &&
		same(a.Console.Line, b.Console.Line, equal[byte])
}

// same tells whether two lists are the same, by what the same is of their elements.
func same[T any](a, b []T, isSame func(a, b T) bool) bool {
	if len(a) != len(b) {
		return false
	}
	for i := range a {
		if !isSame(a[i], b[i]) {
			return false
		}
	}
	return true
}

func equal[T comparable](a, b T) bool { return a == b }

// plainProc is what can be compared of a process, its frames left out.
type plainProc struct {
	slot, pid, state, parent int
	channel                  api.Chan
	killed                   bool
	status                   int32
	regs                     api.Regs
	size                     uint64
	nodes                    int // how many
	fds                      [api.MaxFds]int
	cwd                      int
	inCall                   bool
	pending                  api.Pending
}

func plainProcOf(p api.ProcLook) plainProc {
	return plainProc{
		slot: p.Slot, pid: p.Pid, state: p.State, parent: p.Parent,
		channel: p.Chan, killed: p.Killed, status: p.Status,
		regs: p.Regs, size: p.Size, nodes: len(p.Nodes),
		fds: p.Fds, cwd: p.Cwd, inCall: p.InCall, pending: p.Pending,
	}
}

func sameProc(a, b api.ProcLook) bool {
	return plainProcOf(a) == plainProcOf(b) && same(a.Pages, b.Pages, samePage)
}

func samePage(a, b api.PageLook) bool { return a.Page == b.Page && a.Perm == b.Perm }

// plainInode is what can be compared of an inode, its frames left out.
type plainInode struct {
	ino, kind    int
	major, minor int16
	links, refs  int
	size         int
	blocks       int // how many
}

func plainInodeOf(i api.InodeLook) plainInode {
	return plainInode{
		ino: i.Ino, kind: i.Type, major: i.Major, minor: i.Minor,
		links: i.Links, refs: i.Refs, size: i.Size, blocks: len(i.Blocks),
	}
}

func sameInode(a, b api.InodeLook) bool { return plainInodeOf(a) == plainInodeOf(b) }

// plainPipe is what can be compared of a pipe, its bytes left out.
type plainPipe struct {
	num            int
	reads, writes  uint32
	reader, writer bool
}

func plainPipeOf(p api.PipeLook) plainPipe {
	return plainPipe{
		num: p.Num, reads: p.State.Reads, writes: p.State.Writes,
		reader: p.State.Reader, writer: p.State.Writer,
	}
}

func samePipe(a, b api.PipeLook) bool {
	return plainPipeOf(a) == plainPipeOf(b) && same(a.State.Bytes, b.State.Bytes, equal[byte])
}
