package engine_test

// W1: the program's machine beside the abstract one, step by step, held together by DOC.md's R.

import (
	"bytes"
	"fmt"
	"reflect"
	"slices"
	"strconv"
	"strings"
	"testing"

	"hartix/api"
	"hartix/engine"
	"hartix/kernel"
)

// pair is the two machines.
type pair struct {
	t     *testing.T
	text  string
	m     *kernel.Machine
	plain *plainMachine
}

// begin boots a script's text on both machines; nil: both refuse it, and Tell says so.
func begin(t *testing.T, text string) *pair {
	t.Helper()
	script, err := engine.Parse(text)
	if err != nil {
		t.Fatalf("%v in:\n%s", err, text)
	}
	plain, wantErr := plainBoot(script)
	m, err := kernel.Boot(script)
	if !reflect.DeepEqual(err, wantErr) {
		t.Fatalf("Boot: %v, want %v, of:\n%s", err, wantErr, text)
	}
	if err != nil {
		if got := engine.Tell(text); got != wantRefused(wantErr) {
			t.Fatalf("%q, want %q, of:\n%s", got, wantRefused(wantErr), text)
		}
		return nil
	}
	w := &pair{t: t, text: text, m: m, plain: plain}
	w.check()
	return w
}

// fail tells what was wrong, and where.
func (w *pair) fail(format string, args ...any) {
	w.t.Helper()
	w.t.Fatalf("ahead of step %d: %s, of:\n%s", w.plain.k, fmt.Sprintf(format, args...), w.text)
}

// step does a step on both; true: both have ended, alike.
func (w *pair) step() bool {
	w.t.Helper()
	halt, over := w.m.Step()
	wantHalt, wantOver := w.plain.step()
	if halt != wantHalt || over != wantOver {
		w.fail("%+v, %v, want %+v, %v", halt, over, wantHalt, wantOver)
	}
	w.check()
	return over
}

// toEnd steps to the end, and asks Tell for the same.
func (w *pair) toEnd() {
	w.t.Helper()
	for !w.step() {
	}
	if got, want := engine.Tell(w.text), wantReport(w.plain.told()); got != want {
		w.fail("Tell %q, want %q", got, want)
	}
}

// check asks for R.
func (w *pair) check() {
	w.t.Helper()
	slot, on := w.m.On()
	if slot != w.plain.on || on != (w.plain.on >= 0) || w.m.At() != w.plain.k {
		w.fail("On %d, %v, At %d, want %d", slot, on, w.m.At(), w.plain.on)
	}
	if got := w.m.Output(); !bytes.Equal(got, w.plain.out) {
		w.fail("%q was printed, want %q", got, w.plain.out)
	}
	l := w.m.Os().Look()
	if l.Free != w.plain.free() || l.Ticks != w.plain.ticks || l.NextPid != w.plain.next || !bytes.Equal(l.Console.Ready, w.plain.ready) || !bytes.Equal(l.Console.Line, w.plain.line) {
		w.fail("free %d, %d ticks, pid %d, console %q, want %d, %d, %d, %q, %q", l.Free, l.Ticks, l.NextPid, l.Console, w.plain.free(), w.plain.ticks, w.plain.next, w.plain.ready, w.plain.line)
	}
	w.checkProcs(l)
	w.checkFiles(l)
	w.checkInodes(l)
}

func (w *pair) checkProcs(l api.OsLook) {
	w.t.Helper()
	n := 0
	for _, p := range w.plain.procs {
		if p == nil {
			continue
		}
		if n == len(l.Procs) {
			w.fail("slot %d is not there", p.slot)
		}
		got := l.Procs[n]
		n++
		want := api.ProcLook{
			Slot: p.slot, Pid: p.pid, State: p.state, Parent: p.parent, Chan: p.on, Killed: p.killed, Status: p.status, Regs: p.regs, Size: p.size, Fds: p.fds, Cwd: p.cwd, InCall: p.inCall, Pending: p.doing,
			Frame: got.Frame, Root: got.Root, Nodes: got.Nodes, Pages: got.Pages,
		}
		if !reflect.DeepEqual(got, want) {
			w.fail("the process is %+v, want %+v", got, want)
		}
		if len(got.Nodes) != nodesOf(len(p.pages)) || len(got.Pages) != len(p.pages) {
			w.fail("slot %d has %d nodes and %d pages, want %d pages", p.slot, len(got.Nodes), len(got.Pages), len(p.pages))
		}
		for k, page := range got.Pages {
			b, _ := w.m.Ram().Read(page.Frame, pageSize)
			if page.Page != uint64(k) || page.Perm != p.pages[k].perm || !bytes.Equal(b, p.pages[k].data) {
				w.fail("page %d of slot %d is number %d, has the rights %x, want %x, or other bytes", k, p.slot, page.Page, page.Perm, p.pages[k].perm)
			}
		}
	}
	if n != len(l.Procs) {
		w.fail("%d processes, want %d", len(l.Procs), n)
	}
}

func (w *pair) checkFiles(l api.OsLook) {
	w.t.Helper()
	var files []api.FileLook
	for _, f := range w.plain.files {
		if f != nil {
			files = append(files, *f)
		}
	}
	var pipes []api.PipeLook
	for n, q := range w.plain.pipes {
		if q != nil {
			pipes = append(pipes, api.PipeLook{Num: n, State: api.PipeState{Bytes: append([]byte(nil), q.in...), Reads: q.reads, Writes: q.writes, Reader: w.plain.hasEnd(api.FileReader, n), Writer: w.plain.hasEnd(api.FileWriter, n)}})
		}
	}
	if !slices.Equal(l.Files, files) || !reflect.DeepEqual(l.Pipes, pipes) {
		w.fail("open files %+v, pipes %+v, want %+v, %+v", l.Files, l.Pipes, files, pipes)
	}
}

func (w *pair) checkInodes(l api.OsLook) {
	w.t.Helper()
	if len(l.Inodes) != len(w.plain.tree) {
		w.fail("%d inodes, want %d", len(l.Inodes), len(w.plain.tree))
	}
	for _, got := range l.Inodes {
		node := w.plain.tree[got.Ino]
		if node == nil {
			w.fail("inode %d is there", got.Ino)
		}
		want := api.InodeLook{Ino: got.Ino, Type: node.typ, Major: node.major, Minor: node.minor, Links: w.plain.tree.links(got.Ino), Refs: node.refs, Size: node.size(), Blocks: got.Blocks}
		if !reflect.DeepEqual(got, want) || len(got.Blocks) != node.blocks() {
			w.fail("the inode is %+v, want %+v with %d blocks", got, want, node.blocks())
		}
		var b []byte
		for _, pa := range got.Blocks {
			block, _ := w.m.Ram().Read(pa, pageSize)
			b = append(b, block...)
		}
		if !bytes.Equal(b[:node.size()], node.bytes()) {
			w.fail("inode %d has other bytes", got.Ino)
		}
	}
}

// variety counts what drawn scripts have come to, lest they all end early.
type variety map[string]int

func (v variety) note(m *plainMachine) {
	for _, p := range m.procs {
		if p == nil {
			continue
		}
		switch p.state {
		case api.ProcSleep:
			v["asleep "+strconv.Itoa(p.on.Kind)]++
		case api.ProcZombie:
			v["zombies"]++
		}
	}
	if m.free() < 8 {
		v["want"]++
	}
}

func (v variety) noteCall(number int, b became) {
	what := []string{answers: "done", sleeps: "sleeps", ends: "done", anew: "done"}[b.how]
	if b.how == answers && b.value == -1 {
		what = "refused"
	}
	v["call "+strconv.Itoa(number)+" "+what]++
}

func (v variety) add(other variety) {
	for what, n := range other {
		v[what] += n
	}
}

// atLeast asks for enough of everything.
func (v variety) atLeast(t *testing.T, least map[string]int) {
	t.Helper()
	for what, n := range least {
		if v[what] < n {
			t.Errorf("drawn too much alike: %s came %d times, not %d", what, v[what], n)
		}
	}
}

// inParts does a test of drawn things in parts, side by side.
func inParts(t *testing.T, parts int, do func(t *testing.T, part int, v variety)) variety {
	all := make([]variety, parts)
	t.Run("parts", func(t *testing.T) {
		for k := range parts {
			all[k] = variety{}
			t.Run(strconv.Itoa(k), func(t *testing.T) {
				t.Parallel()
				do(t, k, all[k])
			})
		}
	})
	sum := variety{}
	for _, v := range all {
		sum.add(v)
	}
	return sum
}

func (w *pair) play(v variety) {
	w.t.Helper()
	for !w.step() {
		v.note(w.plain)
	}
	w.toEnd()
	v["halt "+strconv.Itoa(w.plain.halt.Code)]++
	v.add(w.plain.answered)
	if len(w.plain.steps) > 4 {
		v["many processes"]++
	}
}

func TestRefinement(t *testing.T) {
	v := inParts(t, 8, func(t *testing.T, part int, v variety) {
		s := scatter(1000 + part)
		for range 40 {
			if w := begin(t, drawnRun(&s)); w != nil {
				w.play(v)
			} else {
				v["refused"]++
			}
		}
	})
	for number := 1; number <= 21; number++ {
		v.atLeast(t, map[string]int{fmt.Sprintf("call %d done", number): 10})
		if number != api.SysExit && number != api.SysGetpid && number != api.SysSleep && number != api.SysUptime {
			v.atLeast(t, map[string]int{fmt.Sprintf("call %d refused", number): 10})
		}
	}
	v.atLeast(t, map[string]int{
		"halt 1": 50, "halt 2": 50, "halt 3": 20, "asleep 1": 500, "asleep 2": 150, "asleep 3": 500, "asleep 4": 300, "asleep 5": 50, "zombies": 1000, "many processes": 20, "want": 500,
	})
}

// Little memory: the want of frames is met at each place.
func TestRefinementInWant(t *testing.T) {
	v := inParts(t, 8, func(t *testing.T, part int, v variety) {
		s := scatter(2000 + part)
		for range 5 {
			text := drawnRun(&s)
			_, behind, _ := strings.Cut(text, "\n")
			for _, frames := range []int{16, 22, 26, 28, 30, 33, 37} {
				if w := begin(t, fmt.Sprintf("frames %d\n%s", frames, behind)); w != nil {
					w.play(v)
				} else {
					v["refused"]++
				}
			}
		}
	})
	v.atLeast(t, map[string]int{"refused": 20, "want": 5000, "halt 1": 20, "halt 2": 20})
}
