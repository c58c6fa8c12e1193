package census_test

// P17.3: each reason, at its edges; which of several holds.

import (
	"math"
	"testing"

	"hartix/api"
)

// wrongRow is one thing turned in the sound system, and what is wrong then.
type wrongRow struct {
	what string
	turn func(v *seen)
	kind int
	n    int
}

func checkRows(t *testing.T, rows []wrongRow) {
	t.Helper()
	for _, r := range rows {
		v := sound()
		r.turn(&v)
		v.isWrong(t, r.what, r.kind, r.n)
	}
}

// addFrame gives the memory a frame more, for what a row adds.
func (v *seen) addFrame() uint64 {
	v.frames++
	return at(v.frames - 1)
}

// free1 takes a frame that is free from the list.
func (v *seen) free1() uint64 {
	frame := v.free[0]
	v.free = v.free[1:]
	v.l.Free--
	return frame
}

// give makes frames free that something had.
func (v *seen) give(frames ...uint64) {
	v.free = append(v.free, frames...)
	v.l.Free = len(v.free)
}

func TestWrongPlaces(t *testing.T) {
	var rows []wrongRow
	for what, address := range map[string]uint64{
		"0": 0, "below": base - 4096, "a byte below": base - 1, "a byte above": base + 1, "off its place": at(4) + 8,
		"behind the last": at(36), "far above": 1 << 40, "the greatest": math.MaxUint64, "the greatest page": math.MaxUint64 - 4095,
	} {
		rows = append(rows, []wrongRow{
			{what + " as Tramp", func(v *seen) { v.l.Tramp = address }, api.WrongPlace, 0},
			{what + " as free", func(v *seen) { v.free[2] = address }, api.WrongPlace, 3},
			{what + " as a node", func(v *seen) { v.l.Procs[0].Nodes[0] = address }, api.WrongPlace, 4},
			{what + " as a page", func(v *seen) { v.l.Procs[0].Pages[0].Frame = address }, api.WrongPlace, 9},
			{what + " as a trapframe", func(v *seen) { v.l.Procs[1].Frame = address }, api.WrongPlace, 19},
			{what + " as a block", func(v *seen) { v.l.Inodes[2].Blocks[1] = address }, api.WrongPlace, 34},
			{what + " twice", func(v *seen) { v.l.Inodes[2].Blocks[1], v.l.Procs[1].Frame = address, address }, api.WrongPlace, 19},
		}...)
	}
	checkRows(t, rows)
}

func TestWrongFrames(t *testing.T) {
	checkRows(t, []wrongRow{
		{"one frame more", func(v *seen) { v.addFrame() }, api.WrongLost, 36},
		{"no trampoline's", func(v *seen) { v.l.Tramp = at(33) }, api.WrongLost, 0},
		{"a free one twice", func(v *seen) { v.free = append(v.free, at(35)) }, api.WrongShared, 35},
		{"a free one is a page too", func(v *seen) { v.l.Procs[1].Pages[0].Frame = at(34) }, api.WrongLost, 13},
		{"two pages are one", func(v *seen) { v.l.Procs[1].Pages[1].Frame = at(13) }, api.WrongShared, 13},
		{"one is in two processes", func(v *seen) { v.l.Procs[2].Frame = at(7) }, api.WrongShared, 7},
		{"a block is a node too", func(v *seen) { v.l.Inodes[0].Blocks[0] = at(20) }, api.WrongShared, 20},
		{"named three times", func(v *seen) { v.free = append(v.free, at(35), at(35)) }, api.WrongShared, 35},
	})
}

func TestWrongFree(t *testing.T) {
	for _, n := range []int{0, -1, 2, 4, math.MinInt, math.MaxInt} {
		checkRows(t, []wrongRow{{"Free", func(v *seen) { v.l.Free = n }, api.WrongFree, 0}})
	}
}

func TestWrongProcs(t *testing.T) {
	slot := func(i, slot int) func(v *seen) {
		return func(v *seen) { v.l.Procs[i].Slot = slot }
	}
	pid := func(i, pid int) func(v *seen) {
		return func(v *seen) { v.l.Procs[i].Pid = pid }
	}
	state := func(i, state int) func(v *seen) {
		return func(v *seen) { v.l.Procs[i].State = state }
	}
	parent := func(i, parent int) func(v *seen) {
		return func(v *seen) { v.l.Procs[i].Parent = parent }
	}
	none := func(v *seen) {}
	checkRows(t, []wrongRow{
		{"slot -1", slot(0, -1), api.WrongProc, -1},
		{"slot 64", slot(3, 64), api.WrongProc, 64},
		{"a huge slot", slot(3, math.MaxInt), api.WrongProc, math.MaxInt},
		{"slot 62", slot(3, 62), api.WrongNone, 0},
		{"a slot as the one ahead", func(v *seen) { v.l.Procs[3].Slot = 5 }, api.WrongProc, 5},
		{"a slot below the one ahead", func(v *seen) { v.l.Procs[3].Slot = 4 }, api.WrongProc, 4},
		{"the least slot above the one ahead", slot(3, 6), api.WrongNone, 0},
		{"state free", state(1, api.ProcFree), api.WrongProc, 2},
		{"state 4", state(1, 4), api.WrongProc, 2},
		{"state -1", state(0, -1), api.WrongProc, 0},
		{"can run", state(1, api.ProcRun), api.WrongNone, 0},
		{"pid 0", pid(0, 0), api.WrongProc, 0},
		{"pid -3", pid(2, -3), api.WrongProc, 5},
		{"pid NextPid", pid(2, 10), api.WrongProc, 5},
		{"pid above NextPid", pid(2, math.MaxInt), api.WrongProc, 5},
		{"pid 2, lower than those ahead", pid(3, 2), api.WrongNone, 0},
		{"the first's pid", pid(3, 1), api.WrongProc, 63},
		{"the pid of the one ahead", pid(2, 4), api.WrongProc, 5},
		{"the pid of one behind", pid(0, 9), api.WrongProc, 63},
		{"NextPid as the last one's", func(v *seen) { v.l.NextPid = 9 }, api.WrongProc, 63},
		{"NextPid below all", func(v *seen) { v.l.NextPid = 1 }, api.WrongProc, 0},
		{"NextPid far above", func(v *seen) { v.l.NextPid = math.MaxInt }, api.WrongNone, 0},
		{"a parent that is free", parent(3, 1), api.WrongProc, 63},
		{"parent -1", parent(3, -1), api.WrongProc, 63},
		{"parent 64", parent(0, 64), api.WrongProc, 0},
		{"its own", parent(3, 63), api.WrongNone, 0},
		{"a parent behind it", parent(0, 63), api.WrongNone, 0},
		{"a zombie as a parent", parent(0, 5), api.WrongNone, 0},
		{"nothing", none, api.WrongNone, 0},
	})
}

func TestWrongPages(t *testing.T) {
	size := func(i int, size uint64) func(v *seen) {
		return func(v *seen) { v.l.Procs[i].Size = size }
	}
	number := func(i, page int, number uint64) func(v *seen) {
		return func(v *seen) { v.l.Procs[i].Pages[page].Page = number }
	}
	checkRows(t, []wrongRow{
		{"size 0 of one page", size(0, 0), api.WrongPages, 0},
		{"size 1", size(0, 1), api.WrongNone, 0},
		{"size 4096", size(0, 4096), api.WrongNone, 0},
		{"size 4097 of one page", size(0, 4097), api.WrongPages, 0},
		{"size 8192 of three", size(1, 8192), api.WrongPages, 2},
		{"size 12288", size(1, 12288), api.WrongNone, 0},
		{"size 12289", size(1, 12289), api.WrongPages, 2},
		{"a zombie's", size(2, 4097), api.WrongPages, 5},
		{"size 1 without pages", size(3, 1), api.WrongPages, 63},
		{"the greatest size", size(3, math.MaxUint64), api.WrongPages, 63},
		{"a size that goes round to one page", size(0, math.MaxUint64-4094), api.WrongPages, 0},
		{"another number", number(0, 0, 1), api.WrongPages, 0},
		{"one twice", number(1, 2, 1), api.WrongPages, 2},
		{"a gap", number(1, 2, 3), api.WrongPages, 2},
		{"a huge number", number(1, 1, math.MaxUint64), api.WrongPages, 2},
		{"out of order", func(v *seen) {
			p := v.l.Procs[1].Pages
			p[0], p[1] = p[1], p[0]
		}, api.WrongPages, 2},
		{"a page less", func(v *seen) { v.give(v.l.Procs[1].Pages[2].Frame); v.l.Procs[1].Pages = v.l.Procs[1].Pages[:2] }, api.WrongPages, 2},
		{"a page more", func(v *seen) {
			v.l.Procs[0].Pages = append(v.l.Procs[0].Pages, api.PageLook{Page: 1, Frame: v.free1()})
		}, api.WrongPages, 0},
		{"a node less", func(v *seen) { v.give(v.l.Procs[1].Nodes[4]); v.l.Procs[1].Nodes = v.l.Procs[1].Nodes[:4] }, api.WrongPages, 2},
		{"a node more", func(v *seen) { v.l.Procs[3].Nodes = append(v.l.Procs[3].Nodes, v.free1()) }, api.WrongPages, 63},
		{"rights are let be", func(v *seen) { v.l.Procs[0].Pages[0].Perm = math.MaxUint64 }, api.WrongNone, 0},
	})
}

// TestManyPages has a process with so many pages that it needs more nodes.
func TestManyPages(t *testing.T) {
	for pages, nodes := range map[int]int{511: 5, 512: 5, 513: 6, 1024: 6, 1025: 7} {
		for more := -1; more <= 1; more++ {
			var g giver
			v := seen{l: api.OsLook{Tramp: g.some(1)[0], NextPid: 2}}
			p := g.proc(0, 1, api.ProcRun, 0, uint64(pages)*4096)
			if more > 0 {
				p.Nodes = append(p.Nodes, g.some(1)...)
			} else if more < 0 {
				v.free, v.l.Free = p.Nodes[:1], 1
				p.Nodes = p.Nodes[1:]
			}
			v.l.Procs = []api.ProcLook{p}
			v.l.Inodes = []api.InodeLook{{Ino: 1, Type: api.TypeDir, Refs: 1, Size: 1, Blocks: g.some(1)}}
			v.frames = int(g)
			kind := api.WrongPages
			if more == 0 {
				kind = api.WrongNone
			}
			v.isWrong(t, "many pages", kind, 0)
			if got := len(p.Nodes); got != nodes+more {
				t.Errorf("%d pages: %d nodes, want %d", pages, got, nodes+more)
			}
		}
	}
}

func TestWrongFds(t *testing.T) {
	fd := func(i, fd, f int) func(v *seen) {
		return func(v *seen) { v.l.Procs[i].Fds[fd] = f }
	}
	cwd := func(i, ino int) func(v *seen) {
		return func(v *seen) { v.l.Procs[i].Cwd = ino }
	}
	checkRows(t, []wrongRow{
		{"a place that is free", fd(0, 5, 1), api.WrongFd, 0},
		{"the last descriptor", fd(1, 15, 98), api.WrongFd, 2},
		{"-2", fd(1, 0, -2), api.WrongFd, 2},
		{"100", fd(3, 0, 100), api.WrongFd, 63},
		{"a huge one", fd(3, 0, math.MaxInt), api.WrongFd, 63},
		{"a zombie's, open", fd(2, 0, 0), api.WrongFd, 5},
		{"a zombie's, not open", fd(2, 15, 1), api.WrongFd, 5},
		{"no inode", cwd(1, 5), api.WrongFd, 2},
		{"inode 0", cwd(0, 0), api.WrongFd, 0},
		{"a file", cwd(3, 3), api.WrongFd, 63},
		{"a device", cwd(3, 4), api.WrongFd, 63},
		{"a zombie's", cwd(2, 5), api.WrongNone, 0},
		{"a zombie's file", cwd(2, 3), api.WrongNone, 0},
		{"-1", cwd(1, -1), api.WrongFd, 2},
		{"no directory any more", func(v *seen) { v.l.Inodes[1].Type = api.TypeFile }, api.WrongFd, 2},
		{"type 0", func(v *seen) { v.l.Inodes[0].Type = 0 }, api.WrongFd, 0},
	})
	v := sound()
	v.l.Inodes = append(v.l.Inodes, api.InodeLook{Ino: 4, Type: api.TypeDir})
	v.l.Procs[1].Cwd = 4
	v.isWrong(t, "of several inodes of one number any will do", api.WrongInode, 2)
}

// opened gives the system an open file that slot 0's descriptor 9 names.
func opened(f api.FileLook) func(v *seen) {
	return func(v *seen) {
		v.l.Files = append(v.l.Files, f)
		v.l.Procs[0].Fds[9] = f.Num
	}
}

// upTo90 makes room behind the last open file: number 99 becomes 90.
func upTo90(v *seen) {
	v.l.Files[4].Num, v.l.Procs[0].Fds[15] = 90, 90
}

func TestWrongFiles(t *testing.T) {
	file := func(at int, turn func(f *api.FileLook)) func(v *seen) {
		return func(v *seen) { turn(&v.l.Files[at]) }
	}
	device := func(num, refs int) func(v *seen) {
		return func(v *seen) {
			upTo90(v)
			opened(api.FileLook{Num: num, Kind: api.FileIno, Refs: refs, Ino: 4})(v)
			v.l.Inodes[3].Refs++
		}
	}
	checkRows(t, []wrongRow{
		{"99", device(99, 1), api.WrongNone, 0},
		{"100", device(100, 1), api.WrongFile, 100},
		{"91", device(91, 1), api.WrongNone, 0},
		{"the same as ahead", func(v *seen) { device(90, 2)(v); v.l.Files[4].Refs = 2 }, api.WrongFile, 90},
		{"below the one ahead", device(89, 1), api.WrongFile, 89},
		{"-5", device(-5, 1), api.WrongFile, -5},
		{"Refs one less", file(0, func(f *api.FileLook) { f.Refs = 2 }), api.WrongFile, 0},
		{"Refs one more", file(2, func(f *api.FileLook) { f.Refs = 3 }), api.WrongFile, 9},
		{"nobody names it", func(v *seen) { v.l.Procs[1].Fds[3] = -1 }, api.WrongFile, 5},
		{"nobody names it, nor does it say so", func(v *seen) { v.l.Procs[1].Fds[3] = -1; v.l.Files[1].Refs = 0 }, api.WrongFile, 5},
		{"a number of which descriptors that are none say that they name it", func(v *seen) {
			v.l.Files = append([]api.FileLook{{Num: -1, Kind: api.FileIno, Refs: 64 - 8, Ino: 4}}, v.l.Files...)
			v.l.Inodes[3].Refs++
		}, api.WrongFile, -1},
		{"kind none", file(1, func(f *api.FileLook) { f.Kind = api.FileNone }), api.WrongFile, 5},
		{"kind 4", file(1, func(f *api.FileLook) { f.Kind = 4 }), api.WrongFile, 5},
		{"kind -1", file(1, func(f *api.FileLook) { f.Kind = -1 }), api.WrongFile, 5},
		{"no inode", file(2, func(f *api.FileLook) { f.Ino = 5 }), api.WrongFile, 9},
		{"inode 0", file(2, func(f *api.FileLook) { f.Ino = 0 }), api.WrongFile, 9},
		{"a pipe's number is no inode's", file(2, func(f *api.FileLook) { f.Ino = 31 }), api.WrongFile, 9},
		{"no pipe, a reader", file(1, func(f *api.FileLook) { f.Pipe = 0 }), api.WrongFile, 5},
		{"no pipe, a writer", file(3, func(f *api.FileLook) { f.Pipe = 3 }), api.WrongFile, 40},
		{"an inode's number is no pipe's", file(3, func(f *api.FileLook) { f.Pipe = 199 }), api.WrongFile, 40},
		{"an inode's Pipe is let be", file(2, func(f *api.FileLook) { f.Pipe = -8 }), api.WrongNone, 0},
		{"a pipe's Ino is let be", file(1, func(f *api.FileLook) { f.Ino = -8 }), api.WrongNone, 0},
		{"rights are let be", file(1, func(f *api.FileLook) { f.Readable, f.Writable, f.Off = false, true, -1 }), api.WrongNone, 0},
	})
}

func TestWrongInodes(t *testing.T) {
	inode := func(at int, turn func(i *api.InodeLook)) func(v *seen) {
		return func(v *seen) { turn(&v.l.Inodes[at]) }
	}
	last := func(ino int) func(v *seen) {
		return func(v *seen) { v.l.Inodes[4].Ino = ino }
	}
	first := func(ino int) func(v *seen) {
		return func(v *seen) { v.l.Inodes[0].Ino, v.l.Procs[0].Cwd, v.l.Procs[3].Cwd = ino, ino, ino }
	}
	checkRows(t, []wrongRow{
		{"200", last(200), api.WrongInode, 200},
		{"198", last(198), api.WrongNone, 0},
		{"5", last(5), api.WrongNone, 0},
		{"below the one ahead", last(3), api.WrongInode, 3},
		{"the same as ahead", func(v *seen) { v.l.Inodes[4].Ino, v.l.Inodes[4].Refs = 4, 1 }, api.WrongInode, 4},
		{"0", first(0), api.WrongInode, 0},
		{"-7", first(-7), api.WrongInode, -7},
		{"Refs one less", inode(0, func(i *api.InodeLook) { i.Refs = 1 }), api.WrongInode, 1},
		{"Refs one more", inode(4, func(i *api.InodeLook) { i.Refs = 1 }), api.WrongInode, 199},
		{"Refs -1", inode(4, func(i *api.InodeLook) { i.Refs = -1 }), api.WrongInode, 199},
		{"nobody holds it, and it has no name", inode(4, func(i *api.InodeLook) { i.Links = 0 }), api.WrongInode, 199},
		{"one name", inode(4, func(i *api.InodeLook) { i.Links = 1 }), api.WrongNone, 0},
		{"Links -1", inode(4, func(i *api.InodeLook) { i.Links = -1 }), api.WrongNone, 0},
		{"the root without a name", inode(0, func(i *api.InodeLook) { i.Links = 0 }), api.WrongNone, 0},
		{"the root without a name, and nobody holds it", func(v *seen) {
			v.l.Inodes[0].Links, v.l.Inodes[0].Refs = 0, 0
			v.l.Procs[0].Cwd, v.l.Procs[3].Cwd, v.l.Inodes[1].Refs = 2, 2, 3
		}, api.WrongNone, 0},
		{"size 0 of one block", inode(1, func(i *api.InodeLook) { i.Size = 0 }), api.WrongInode, 2},
		{"size 1", inode(1, func(i *api.InodeLook) { i.Size = 1 }), api.WrongNone, 0},
		{"size 4096", inode(1, func(i *api.InodeLook) { i.Size = 4096 }), api.WrongNone, 0},
		{"size 4097 of one block", inode(1, func(i *api.InodeLook) { i.Size = 4097 }), api.WrongInode, 2},
		{"size 4096 of two", inode(2, func(i *api.InodeLook) { i.Size = 4096 }), api.WrongInode, 3},
		{"size 8192", inode(2, func(i *api.InodeLook) { i.Size = 8192 }), api.WrongNone, 0},
		{"size 8193 of two", inode(2, func(i *api.InodeLook) { i.Size = 8193 }), api.WrongInode, 3},
		{"size 1 without a block", inode(3, func(i *api.InodeLook) { i.Size = 1 }), api.WrongInode, 4},
		{"size -1 without a block", inode(3, func(i *api.InodeLook) { i.Size = -1 }), api.WrongInode, 4},
		{"size -1 of one block", inode(1, func(i *api.InodeLook) { i.Size = -1 }), api.WrongInode, 2},
		{"size -4096", inode(3, func(i *api.InodeLook) { i.Size = -4096 }), api.WrongInode, 4},
		{"the least size", inode(3, func(i *api.InodeLook) { i.Size = math.MinInt }), api.WrongInode, 4},
		{"the greatest size", inode(3, func(i *api.InodeLook) { i.Size = math.MaxInt }), api.WrongInode, 4},
		{"a type that is none is let be", inode(4, func(i *api.InodeLook) { i.Type = 9 }), api.WrongNone, 0},
	})
}

func TestWrongPipes(t *testing.T) {
	ends := func(at int, reader, writer bool) func(v *seen) {
		return func(v *seen) { v.l.Pipes[at].State.Reader, v.l.Pipes[at].State.Writer = reader, writer }
	}
	more := func(num int) func(v *seen) {
		return func(v *seen) {
			upTo90(v)
			opened(api.FileLook{Num: 91, Kind: api.FileWriter, Refs: 1, Pipe: num})(v)
			v.l.Pipes = append(v.l.Pipes, api.PipeLook{Num: num, State: api.PipeState{Writer: true}})
		}
	}
	renumber := func(from, to int, turn func(v *seen)) func(v *seen) {
		return func(v *seen) {
			for i := range v.l.Files {
				if v.l.Files[i].Pipe == from && v.l.Files[i].Kind != api.FileIno {
					v.l.Files[i].Pipe = to
				}
			}
			for i := range v.l.Pipes {
				if v.l.Pipes[i].Num == from {
					v.l.Pipes[i].Num = to
				}
			}
			turn(v)
		}
	}
	nothing := func(v *seen) {}
	checkRows(t, []wrongRow{
		{"32", more(32), api.WrongPipe, 32},
		{"31 behind 30", renumber(31, 30, more(31)), api.WrongNone, 0},
		{"29 behind 30", renumber(31, 30, more(29)), api.WrongPipe, 29},
		{"0", renumber(7, 0, nothing), api.WrongNone, 0},
		{"-1", renumber(7, -1, nothing), api.WrongPipe, -1},
		{"the same as ahead", renumber(7, 31, func(v *seen) { v.l.Pipes[0].State.Writer = true }), api.WrongPipe, 31},
		{"an open reader too few", ends(0, false, false), api.WrongPipe, 7},
		{"an open writer too many", ends(0, true, true), api.WrongPipe, 7},
		{"the other end", ends(0, false, true), api.WrongPipe, 7},
		{"no writer", ends(1, true, false), api.WrongPipe, 31},
		{"no reader", ends(1, false, true), api.WrongPipe, 31},
		{"neither end, nor an open file", func(v *seen) {
			v.l.Pipes = append(v.l.Pipes[:1:1], api.PipeLook{Num: 30}, v.l.Pipes[1])
		}, api.WrongPipe, 30},
		{"two readers", func(v *seen) {
			upTo90(v)
			opened(api.FileLook{Num: 91, Kind: api.FileReader, Refs: 1, Pipe: 7})(v)
		}, api.WrongNone, 0},
		{"an inode's Pipe is no end", func(v *seen) { v.l.Files[2].Pipe = 7; ends(0, true, false)(v) }, api.WrongNone, 0},
		{"bytes and counts are let be", func(v *seen) { v.l.Pipes[0].State.Bytes, v.l.Pipes[0].State.Reads = nil, 77 }, api.WrongNone, 0},
	})
}

// TestWhatIsLetBe turns what no check asks for.
func TestWhatIsLetBe(t *testing.T) {
	checkRows(t, []wrongRow{
		{"ticks", func(v *seen) { v.l.Ticks = math.MaxUint64 }, api.WrongNone, 0},
		{"the console", func(v *seen) { v.l.Console = api.ConsoleState{} }, api.WrongNone, 0},
		{"a channel", func(v *seen) { v.l.Procs[0].Chan = api.Chan{Kind: -1, N: -1} }, api.WrongNone, 0},
		{"a call", func(v *seen) { v.l.Procs[0].InCall, v.l.Procs[0].Pending.Num = true, -1 }, api.WrongNone, 0},
		{"a status", func(v *seen) { v.l.Procs[0].Status, v.l.Procs[0].Killed = 5, true }, api.WrongNone, 0},
		{"the free list's order", func(v *seen) { v.free[0], v.free[2] = v.free[2], v.free[0] }, api.WrongNone, 0},
		{"the nodes' order", func(v *seen) { n := v.l.Procs[1].Nodes; n[0], n[3] = n[3], n[0] }, api.WrongNone, 0},
	})
}

// kinds are turns that make one thing of each kind wrong, in the order in which they count.
func kinds() []wrongRow {
	return []wrongRow{
		{"place", func(v *seen) { v.l.Inodes[0].Blocks[0] = 8 }, api.WrongPlace, 31},
		{"lost", func(v *seen) { v.addFrame() }, api.WrongLost, 36},
		{"free", func(v *seen) { v.l.Free++ }, api.WrongFree, 0},
		{"proc", func(v *seen) { v.l.Procs[3].Parent = 33 }, api.WrongProc, 63},
		{"pages", func(v *seen) { v.l.Procs[2].Size++ }, api.WrongPages, 5},
		{"fd", func(v *seen) { v.l.Procs[1].Fds[8] = 77 }, api.WrongFd, 2},
		{"file", func(v *seen) { v.l.Files[0].Refs++ }, api.WrongFile, 0},
		{"inode", func(v *seen) { v.l.Inodes[0].Size = 4097 }, api.WrongInode, 1},
		{"pipe", func(v *seen) { v.l.Pipes[0].State.Writer = true }, api.WrongPipe, 7},
	}
}

// TestFirstKind turns all of a kind and of those behind it, and any two: the first holds.
func TestFirstKind(t *testing.T) {
	all := kinds()
	for first := range all {
		v := sound()
		for _, r := range all[first:] {
			r.turn(&v)
		}
		v.isWrong(t, "from "+all[first].what+" on", all[first].kind, all[first].n)
		for _, r := range all[first+1:] {
			v := sound()
			r.turn(&v)
			all[first].turn(&v)
			v.isWrong(t, all[first].what+" and "+r.what, all[first].kind, all[first].n)
		}
	}
}

// TestFirstOfAKind makes all things of a list wrong but the first ones.
func TestFirstOfAKind(t *testing.T) {
	lists := map[int]struct {
		numbers []int
		turn    func(v *seen, at int)
	}{
		api.WrongProc:  {[]int{0, 2, 5, 63}, func(v *seen, at int) { v.l.Procs[at].Parent = 33 }},
		api.WrongPages: {[]int{0, 2, 5, 63}, func(v *seen, at int) { v.l.Procs[at].Size += 4096 }},
		api.WrongFd:    {[]int{0, 2, 5, 63}, func(v *seen, at int) { v.l.Procs[at].Fds[7] = 77 }},
		api.WrongFile:  {[]int{0, 5, 9, 40, 99}, func(v *seen, at int) { v.l.Files[at].Refs++ }},
		api.WrongInode: {[]int{1, 2, 3, 4, 199}, func(v *seen, at int) { v.l.Inodes[at].Size += 4096 }},
		api.WrongPipe:  {[]int{7, 31}, func(v *seen, at int) { v.l.Pipes[at].State.Writer = !v.l.Pipes[at].State.Writer }},
	}
	for kind, list := range lists {
		for first, n := range list.numbers {
			v := sound()
			for at := first; at < len(list.numbers); at++ {
				list.turn(&v, at)
			}
			v.isWrong(t, "all from one on", kind, n)
		}
	}
}
