package census_test

// A system that is sound, made by hand; what turns one thing of a look; Take held against the second reading.

import (
	"reflect"
	"slices"
	"strconv"
	"testing"

	"hartix/api"
	"hartix/census"
)

const base = api.RamBase

func at(frame int) uint64 { return base + api.PageSize*uint64(frame) }

// seen is all that Take is given.
type seen struct {
	frames int
	l      api.OsLook
	free   []uint64
}

// giver gives frames, one behind the other.
type giver int

func (g *giver) some(n int) []uint64 {
	var out []uint64
	for range n {
		out = append(out, at(int(*g)))
		*g++
	}
	return out
}

// proc gives a process of a size, without descriptors.
func (g *giver) proc(slot, pid, state, parent int, size uint64) api.ProcLook {
	p := api.ProcLook{Slot: slot, Pid: pid, State: state, Parent: parent, Size: size, Cwd: 1}
	pages := int(size+4095) / 4096
	nodes := 3
	if pages > 0 {
		nodes = 4 + (pages+511)/512
	}
	p.Nodes = g.some(nodes)
	p.Root = p.Nodes[0]
	for n, frame := range g.some(pages) {
		p.Pages = append(p.Pages, api.PageLook{Page: uint64(n), Frame: frame, Perm: api.PteU | api.PteR | api.PteW})
	}
	p.Frame = g.some(1)[0]
	for i := range p.Fds {
		p.Fds[i] = -1
	}
	return p
}

// sound gives a system with which nothing is wrong: four processes, a zombie among them; five open files; an inode without a name; a pipe with one end and one with both.
func sound() seen {
	var g giver
	l := api.OsLook{Tramp: g.some(1)[0], Ticks: 7, NextPid: 10, Free: 3}
	first := g.proc(0, 1, api.ProcRun, 0, 10)
	first.Fds[0], first.Fds[1], first.Fds[15] = 0, 0, 99
	first.Regs.X[3] = 77
	first.Pages[0].Perm = api.PteU | api.PteR | api.PteX
	sleeper := g.proc(2, 4, api.ProcSleep, 0, 8193)
	sleeper.Cwd, sleeper.Chan, sleeper.InCall = 2, api.Chan{Kind: api.ChanRead, N: 7}, true
	sleeper.Pending = api.Pending{Num: api.SysRead, Args: [3]uint64{3, 100, 5}}
	sleeper.Fds[0], sleeper.Fds[3], sleeper.Fds[4] = 0, 5, 9
	sleeper.Pages[1].Perm = api.PteR | api.PteW
	zombie := g.proc(5, 3, api.ProcZombie, 2, 4096)
	zombie.Cwd, zombie.Status = 0, -1
	last := g.proc(63, 9, api.ProcSleep, 0, 0)
	last.Fds[2], last.Fds[5], last.Killed = 40, 9, true
	l.Procs = []api.ProcLook{first, sleeper, zombie, last}
	l.Files = []api.FileLook{
		{Num: 0, Kind: api.FileIno, Refs: 3, Readable: true, Writable: true, Ino: 4},
		{Num: 5, Kind: api.FileReader, Refs: 1, Readable: true, Pipe: 7},
		{Num: 9, Kind: api.FileIno, Refs: 2, Readable: true, Ino: 3, Off: 12},
		{Num: 40, Kind: api.FileWriter, Refs: 1, Writable: true, Pipe: 31},
		{Num: 99, Kind: api.FileReader, Refs: 1, Readable: true, Pipe: 31},
	}
	l.Inodes = []api.InodeLook{
		{Ino: 1, Type: api.TypeDir, Links: 1, Refs: 2, Size: 64, Blocks: g.some(1)},
		{Ino: 2, Type: api.TypeDir, Links: 1, Refs: 1, Size: 32, Blocks: g.some(1)},
		{Ino: 3, Type: api.TypeFile, Refs: 1, Size: 4097, Blocks: g.some(2)},
		{Ino: 4, Type: api.TypeDev, Major: 1, Minor: 2, Links: 1, Refs: 1},
		{Ino: 199, Type: api.TypeFile, Links: 2, Size: 4096, Blocks: g.some(1)},
	}
	l.Pipes = []api.PipeLook{
		{Num: 7, State: api.PipeState{Bytes: []byte("ab"), Reads: 3, Writes: 5, Reader: true}},
		{Num: 31, State: api.PipeState{Reads: 9, Writes: 9, Reader: true, Writer: true}},
	}
	l.Console = api.ConsoleState{Ready: []byte("line\n"), Line: []byte("nex")}
	free := g.some(3)
	return seen{int(g), l, []uint64{free[1], free[2], free[0]}}
}

// copied gives a look that shares nothing with another one.
func copied(l api.OsLook) api.OsLook {
	l.Procs = slices.Clone(l.Procs)
	for i := range l.Procs {
		l.Procs[i].Nodes = slices.Clone(l.Procs[i].Nodes)
		l.Procs[i].Pages = slices.Clone(l.Procs[i].Pages)
	}
	l.Files = slices.Clone(l.Files)
	l.Inodes = slices.Clone(l.Inodes)
	for i := range l.Inodes {
		l.Inodes[i].Blocks = slices.Clone(l.Inodes[i].Blocks)
	}
	l.Pipes = slices.Clone(l.Pipes)
	for i := range l.Pipes {
		l.Pipes[i].State.Bytes = slices.Clone(l.Pipes[i].State.Bytes)
	}
	l.Console.Ready = slices.Clone(l.Console.Ready)
	l.Console.Line = slices.Clone(l.Console.Line)
	return l
}

func (v seen) copied() seen { return seen{v.frames, copied(v.l), slices.Clone(v.free)} }

// parts gives all parts of a value that are numbers, bools or lists, each with the way to it.
func parts(v reflect.Value, way string, do func(way string, v reflect.Value)) {
	switch v.Kind() {
	case reflect.Struct:
		for i := range v.NumField() {
			parts(v.Field(i), way+"."+v.Type().Field(i).Name, do)
		}
	case reflect.Array:
		for i := range v.Len() {
			parts(v.Index(i), way+"["+strconv.Itoa(i)+"]", do)
		}
	case reflect.Slice:
		do(way, v)
		for i := range v.Len() {
			parts(v.Index(i), way+"["+strconv.Itoa(i)+"]", do)
		}
	default:
		do(way, v)
	}
}

type part struct {
	way string
	v   reflect.Value
}

func partsOf(l *api.OsLook) []part {
	var out []part
	parts(reflect.ValueOf(l).Elem(), "", func(way string, v reflect.Value) { out = append(out, part{way, v}) })
	return out
}

func isList(v reflect.Value) bool { return v.Kind() == reflect.Slice }

// turn makes a number or bool another one.
func turn(v reflect.Value, by int) {
	switch {
	case v.Kind() == reflect.Bool:
		v.SetBool(!v.Bool())
	case v.CanInt():
		v.SetInt(v.Int() + int64(by))
	default:
		v.SetUint(v.Uint() + uint64(by))
	}
}

// holdTake holds Take against the second reading.
func (v seen) holdTake(t *testing.T, what string) api.Census {
	t.Helper()
	got, want := census.Take(v.frames, v.l, v.free), take(v.frames, v.l, v.free)
	if !reflect.DeepEqual(got, want) {
		t.Fatalf("%s: %+v\nwant %+v\nof %+v, free %x", what, got, want, v.l, v.free)
	}
	return got
}

// isWrong asks for what is wrong.
func (v seen) isWrong(t *testing.T, what string, kind, n int) {
	t.Helper()
	if got := v.holdTake(t, what).Wrong; got != (api.Wrong{Kind: kind, N: n}) {
		t.Errorf("%s: %v, want {%d %d}", what, got, kind, n)
	}
}

func TestSound(t *testing.T) { sound().isWrong(t, "the system made by hand", api.WrongNone, 0) }
