package file_test

// P12.1, and tables that New did not give.

import (
	"math"
	"reflect"
	"strings"
	"testing"

	"hartix/api"
	"hartix/console"
	"hartix/file"
	"hartix/tree"
)

func TestNewOfNone(t *testing.T) {
	_, x := plant(t, 20)
	for _, c := range []struct {
		x *tree.Tree
		c *console.Console
	}{
		{nil, nil}, {nil, console.New()}, {x, nil}, {&tree.Tree{}, console.New()}, {x, &console.Console{}}, {&tree.Tree{}, &console.Console{}}, {new(tree.Tree), nil}, {nil, new(console.Console)},
	} {
		if s := file.New(c.x, c.c); s != nil {
			t.Errorf("New(%v, %v) = %v", c.x != nil, c.c != nil, s)
		}
	}
	for k, c := range []*console.Console{{}, new(console.Console)} {
		if file.New(x, c); *c != (console.Console{}) {
			t.Errorf("the console %d that nobody made was changed", k)
		}
	}
}

// consoles are states of consoles that were made, at all edges.
func consoles() []api.ConsoleState {
	var all []api.ConsoleState
	for _, ready := range []string{"", "\n", "\x04", "ab\n", strings.Repeat("r", 127), strings.Repeat("r", 128)} {
		for _, line := range []string{"", " ", "a", strings.Repeat("l", 125), strings.Repeat("l", 127)} {
			if n := len(ready) + len(line); n < 128 || n == 128 && line == "" {
				all = append(all, api.ConsoleState{Ready: newOrNil([]byte(ready)), Line: newOrNil([]byte(line))})
			}
		}
	}
	return all
}

// Whatever is in the console, New takes it, and leaves it as it is.
func TestNewLeavesTheConsole(t *testing.T) {
	for _, state := range consoles() {
		_, x := plant(t, 20)
		c, err := console.From(state)
		if err != nil {
			t.Fatal(err)
		}
		for range 3 {
			if file.New(x, c) == nil {
				t.Fatalf("New over a console with %q, %q gives nil", state.Ready, state.Line)
			}
			if got := c.State(); !reflect.DeepEqual(got, state) {
				t.Fatalf("the console has %q, %q, want %q, %q", got.Ready, got.Line, state.Ready, state.Line)
			}
		}
		s := file.New(x, c)
		s.Open(terminal, true, true)
		want, err := console.From(state)
		if err != nil {
			t.Fatal(err)
		}
		b, ok := want.Take(9)
		if got := s.Read(0, 9); (got.How == api.FileDone) != ok || !reflect.DeepEqual(got.Data, b) {
			t.Errorf("Read with %q ready = %+v", state.Ready, got)
		}
	}
}

// New leaves the tree as it is, and takes no frame.
func TestNewLeavesTheTree(t *testing.T) {
	r, x := plant(t, 20)
	before, looks := r.Image(), looksOf(x)
	if file.New(x, console.New()) == nil || !reflect.DeepEqual(r.Image(), before) || !reflect.DeepEqual(looksOf(x), looks) {
		t.Error("New has changed the tree")
	}
}

func looksOf(x *tree.Tree) []api.InodeLook {
	var all []api.InodeLook
	for ino := range 200 {
		all = append(all, x.Look(ino))
	}
	return all
}

// A tree in which no frame is free any more is one all the same.
func TestNewWithoutFrames(t *testing.T) {
	r, x := plant(t, 20)
	for r.Count() > 0 {
		r.Alloc()
	}
	if s := file.New(x, console.New()); s == nil {
		t.Error("New gives nil")
	} else if files, pipes := s.Left(); files != 100 || pipes != 32 {
		t.Errorf("Left = %d, %d", files, pipes)
	}
}

// Two tables over one tree have their own files and pipes; each holds its inodes for itself.
func TestTwoTables(t *testing.T) {
	_, x := plant(t, 20)
	c := console.New()
	one, two := file.New(x, c), file.New(x, c)
	wantOpen(t, one, fileF, true, true, 0, api.OK)
	wantOpen(t, two, fileF, true, true, 0, api.OK)
	one.Pipe()
	same(t, "Look", two.Look(1), api.FileLook{})
	if _, ok := two.Pipes(0); ok {
		t.Error("the pipe is the other table's too")
	}
	one.Write(0, []byte("abc"))
	same(t, "Off", two.Look(0).Off, 0)
	same(t, "Refs", x.Look(fileF).Refs, 2)
	wantDrop(t, one, 0, nil, api.OK)
	same(t, "Refs", x.Look(fileF).Refs, 1)
	same(t, "Read", two.Read(0, 9), done("abc"))
}

func TestTablesThatNewDidNotGive(t *testing.T) {
	for _, s := range []*file.Files{nil, {}, new(file.Files)} {
		for range 2 {
			for _, f := range []int{math.MinInt, -1, 0, 1, 2, 31, 32, 99, 100, math.MaxInt} {
				wantOpen(t, s, f, true, true, 0, api.ErrZero)
				wantOpen(t, s, f, false, false, 0, api.ErrZero)
				wantDrop(t, s, f, nil, api.ErrZero)
				same(t, "Hold", s.Hold(f), api.ErrZero)
				for _, n := range numbers() {
					same(t, "Read", s.Read(f, n), badGot)
					same(t, "Peek", s.Peek(f, n), badGot)
				}
				for _, b := range [][]byte{nil, {}, []byte("a"), make([]byte, 600)} {
					same(t, "Write", s.Write(f, b), badSent)
				}
				stat, errno := s.Stat(f)
				same(t, "Stat", stat, api.Stat{})
				same(t, "Stat", errno, api.ErrZero)
				same(t, "Look", s.Look(f), api.FileLook{})
				look, ok := s.Pipes(f)
				same(t, "Pipes", look, api.PipeLook{})
				same(t, "Pipes", ok, false)
			}
			reader, writer, errno := s.Pipe()
			same(t, "Pipe", []int{reader, writer, int(errno)}, []int{0, 0, int(api.ErrZero)})
			files, pipes := s.Left()
			same(t, "Left", []int{files, pipes}, []int{0, 0})
		}
		if s != nil && !reflect.DeepEqual(s, &file.Files{}) {
			t.Errorf("%+v", *s)
		}
	}
}
