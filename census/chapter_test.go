package census_test

// The chapter read a second time: nothing is gathered, each question goes through the whole look.

import (
	"hartix/api"
)

// claim is somebody who names a frame.
type claim struct {
	at    uint64
	class int
	owner int
}

func claims(l api.OsLook, free []uint64) []claim {
	out := []claim{{at: l.Tramp, class: api.FrameTramp}}
	for _, f := range free {
		out = append(out, claim{at: f, class: api.FrameFree})
	}
	for _, p := range l.Procs {
		for _, n := range p.Nodes {
			out = append(out, claim{n, api.FrameNode, p.Slot})
		}
		for _, page := range p.Pages {
			out = append(out, claim{page.Frame, api.FramePage, p.Slot})
		}
		out = append(out, claim{p.Frame, api.FrameTrap, p.Slot})
	}
	for _, i := range l.Inodes {
		for _, b := range i.Blocks {
			out = append(out, claim{b, api.FrameBlock, i.Ino})
		}
	}
	return out
}

// take is P17.1 to P17.3.
func take(frames int, l api.OsLook, free []uint64) api.Census {
	if frames <= 0 || frames >= 4097 {
		return api.Census{Wrong: api.Wrong{Kind: api.WrongRam}}
	}
	var c api.Census
	all := claims(l, free)
	for n := range frames {
		var own api.FrameOwn
		for _, x := range all {
			if x.at != 0x80000000+4096*uint64(n) {
				continue
			}
			if own.Times == 0 {
				own.Class, own.Owner = x.class, x.owner
			}
			own.Times++
		}
		c.Frames = append(c.Frames, own)
	}
	for _, f := range l.Files {
		c.Files = append(c.Files, api.Count{Num: f.Num, Held: f.Refs, Named: namesOfFile(l, f.Num)})
	}
	for _, i := range l.Inodes {
		c.Inodes = append(c.Inodes, api.Count{Num: i.Ino, Held: i.Refs, Named: namesOfInode(l, i.Ino)})
	}
	c.Wrong = wrong(c.Frames, l, free)
	return c
}

func namesOfFile(l api.OsLook, num int) int {
	n := 0
	for _, p := range l.Procs {
		for fd := range 16 {
			if p.Fds[fd] == num {
				n++
			}
		}
	}
	return n
}

func namesOfInode(l api.OsLook, ino int) int {
	n := 0
	for _, f := range l.Files {
		if f.Kind == 1 && f.Ino == ino {
			n++
		}
	}
	for _, p := range l.Procs {
		if p.State != 3 && p.Cwd == ino {
			n++
		}
	}
	return n
}

// wrong is P17.3, given whose the frames are.
func wrong(owns []api.FrameOwn, l api.OsLook, free []uint64) api.Wrong {
	for place, x := range claims(l, free) {
		if x.at < 0x80000000 || x.at > 0x80000000+4096*uint64(len(owns)-1) || x.at&4095 != 0 {
			return api.Wrong{Kind: api.WrongPlace, N: place}
		}
	}
	for n, own := range owns {
		if own.Times == 0 {
			return api.Wrong{Kind: api.WrongLost, N: n}
		}
		if own.Times > 1 {
			return api.Wrong{Kind: api.WrongShared, N: n}
		}
	}
	if len(free) != l.Free {
		return api.Wrong{Kind: api.WrongFree}
	}
	for _, of := range []func(l api.OsLook) api.Wrong{wrongProc, wrongPages, wrongFd, wrongFile, wrongInode, wrongPipe} {
		if w := of(l); w.Kind != 0 {
			return w
		}
	}
	return api.Wrong{}
}

func wrongProc(l api.OsLook) api.Wrong {
	for at, p := range l.Procs {
		bad := p.Slot < 0 || p.Slot > 63 || p.State < 1 || p.State > 3 || p.Pid < 1 || p.Pid >= l.NextPid
		bad = bad || at > 0 && p.Slot <= l.Procs[at-1].Slot
		for _, ahead := range l.Procs[:at] {
			bad = bad || ahead.Pid == p.Pid
		}
		parents := 0
		for _, q := range l.Procs {
			if q.Slot == p.Parent {
				parents++
			}
		}
		if bad || parents == 0 {
			return api.Wrong{Kind: api.WrongProc, N: p.Slot}
		}
	}
	return api.Wrong{}
}

func wrongPages(l api.OsLook) api.Wrong {
	for _, p := range l.Procs {
		bad := false
		for n, page := range p.Pages {
			bad = bad || page.Page != uint64(n)
		}
		count := uint64(len(p.Pages))
		if count == 0 {
			bad = bad || p.Size != 0 || len(p.Nodes) != 3
		} else {
			bad = bad || p.Size <= (count-1)*4096 || p.Size > count*4096 || len(p.Nodes) != 4+(len(p.Pages)+511)/512
		}
		if bad {
			return api.Wrong{Kind: api.WrongPages, N: p.Slot}
		}
	}
	return api.Wrong{}
}

func wrongFd(l api.OsLook) api.Wrong {
	for _, p := range l.Procs {
		bad := false
		for _, fd := range p.Fds {
			open := false
			for _, f := range l.Files {
				open = open || f.Num == fd && p.State != 3
			}
			bad = bad || fd != -1 && !open
		}
		dirs := 0
		for _, i := range l.Inodes {
			if i.Ino == p.Cwd && i.Type == 1 {
				dirs++
			}
		}
		if bad || p.State != 3 && dirs == 0 {
			return api.Wrong{Kind: api.WrongFd, N: p.Slot}
		}
	}
	return api.Wrong{}
}

func wrongFile(l api.OsLook) api.Wrong {
	for at, f := range l.Files {
		bad := f.Num < 0 || f.Num > 99 || at > 0 && f.Num <= l.Files[at-1].Num
		bad = bad || f.Refs != namesOfFile(l, f.Num) || f.Refs < 1
		there := false
		for _, i := range l.Inodes {
			there = there || f.Kind == 1 && i.Ino == f.Ino
		}
		for _, p := range l.Pipes {
			there = there || (f.Kind == 2 || f.Kind == 3) && p.Num == f.Pipe
		}
		if bad || !there {
			return api.Wrong{Kind: api.WrongFile, N: f.Num}
		}
	}
	return api.Wrong{}
}

func wrongInode(l api.OsLook) api.Wrong {
	for at, i := range l.Inodes {
		bad := i.Ino < 1 || i.Ino > 199 || at > 0 && i.Ino <= l.Inodes[at-1].Ino
		bad = bad || i.Refs != namesOfInode(l, i.Ino)
		bad = bad || i.Ino != 1 && i.Links == 0 && i.Refs == 0
		bytes := len(i.Blocks) * 4096
		if bad || i.Size < 0 || i.Size > bytes || bytes > 0 && i.Size <= bytes-4096 {
			return api.Wrong{Kind: api.WrongInode, N: i.Ino}
		}
	}
	return api.Wrong{}
}

func wrongPipe(l api.OsLook) api.Wrong {
	for at, p := range l.Pipes {
		bad := p.Num < 0 || p.Num > 31 || at > 0 && p.Num <= l.Pipes[at-1].Num
		ends := [4]bool{}
		for _, f := range l.Files {
			if (f.Kind == 2 || f.Kind == 3) && f.Pipe == p.Num {
				ends[f.Kind] = true
			}
		}
		if bad || p.State.Reader != ends[2] || p.State.Writer != ends[3] || !ends[2] && !ends[3] {
			return api.Wrong{Kind: api.WrongPipe, N: p.Num}
		}
	}
	return api.Wrong{}
}

// reach is P17.5.
func reach(l api.OsLook, slot int) [3][]uint64 {
	var out [3][]uint64
	for _, p := range l.Procs {
		if p.Slot == slot {
			for _, page := range p.Pages {
				for n, right := range []uint64{2, 4, 8} {
					if p.State != 3 && page.Perm&16 != 0 && page.Perm&right != 0 {
						out[n] = append(out[n], page.Frame)
					}
				}
			}
			break
		}
	}
	return out
}

// children is P17.7.
func children(l api.OsLook, slot int) []int {
	var out []int
	for _, p := range l.Procs {
		if p.Slot == slot || p.Parent != slot {
			continue
		}
		out = append(out, p.Slot)
	}
	return out
}
