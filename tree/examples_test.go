package tree_test

// The chapter's examples, in its order.

import (
	"bytes"
	"testing"

	"hartix/api"
	"hartix/ram"
	"hartix/tree"
)

// example is a tree of the chapter's examples, without anything beside it.
type example struct {
	t *testing.T
	r *ram.Ram
	x *tree.Tree
}

func (e example) free(want int) {
	e.t.Helper()
	if got := e.r.Count(); got != want {
		e.t.Errorf("%d frames are free, want %d", got, want)
	}
}

func (e example) is(what string, got, want int) {
	e.t.Helper()
	if got != want {
		e.t.Errorf("%s: %d, want %d", what, got, want)
	}
}

func (e example) errno(what string, got, want api.Errno) {
	e.t.Helper()
	if got != want {
		e.t.Errorf("%s: %d, want %d", what, got, want)
	}
}

func (e example) finds(cwd int, path string, want int, wantErrno api.Errno) {
	e.t.Helper()
	if got, errno := e.x.Find(cwd, path); got != want || errno != wantErrno {
		e.t.Errorf("Find(%d, %q) = %d, %d, want %d, %d", cwd, path, got, errno, want, wantErrno)
	}
}

func (e example) makes(cwd int, path string, typ int, want int, wantErrno api.Errno) {
	e.t.Helper()
	if got, errno := e.x.Make(cwd, path, typ, 5, 5); got != want || errno != wantErrno {
		e.t.Errorf("Make(%d, %q) = %d, %d, want %d, %d", cwd, path, got, errno, want, wantErrno)
	}
}

func exampleTree(t *testing.T) example {
	r, _ := ram.New(8)
	x, errno := tree.New(r)
	e := example{t, r, x}
	e.errno("New", errno, api.OK)
	e.free(6)
	return e
}

// first is the chapter's example 1.
func (e example) first() {
	e.t.Helper()
	e.makes(1, "/a", dir, 2, api.OK)
	e.free(5)
	e.is("the root's size", e.x.Look(1).Size, 48)
	e.is("the root's links", e.x.Look(1).Links, 2)
	e.makes(2, "f", file, 3, api.OK)
	e.is("the file's major", int(e.x.Look(3).Major), 0)
}

func TestFirstExample(t *testing.T) {
	e := exampleTree(t)
	e.first()
	e.finds(1, "a/f", 3, api.OK)
	e.finds(2, "./f", 3, api.OK)
	e.finds(2, "../a//f/", 3, api.OK)
	e.finds(3, "x", 0, api.ErrTreeDir)
	e.finds(3, "", 3, api.OK)
}

func TestSecondExample(t *testing.T) {
	e := exampleTree(t)
	e.first()
	b := bytes.Repeat([]byte("ab"), 2500)
	e.is("Write", e.x.Write(3, 0, b), 5000)
	e.is("blocks", len(e.x.Look(3).Blocks), 2)
	e.is("Write behind the end", e.x.Write(3, 5001, b), -1)
	if got := e.x.Read(3, 4999, 9); string(got) != "b" {
		t.Errorf("Read: %q", got)
	}
	e.errno("Link", e.x.Link(3, 1, "/g"), api.OK)
	e.is("links", e.x.Look(3).Links, 2)
	e.errno("Unlink of a directory that is not empty", e.x.Unlink(1, "/a"), api.ErrTreeFull)
	e.errno("Unlink", e.x.Unlink(1, "/a/f"), api.OK)
	e.is("links", e.x.Look(3).Links, 1)
	e.errno("Hold", e.x.Hold(2), api.OK)
	e.free(3)
	e.errno("Unlink of a directory", e.x.Unlink(1, "/a"), api.OK)
	e.free(4)
	e.is("size of one that is gone", e.x.Look(2).Size, 0)
	e.finds(2, ".", 0, api.ErrTreeNone)
	e.makes(2, "x", file, 0, api.ErrTreeGone)
	e.errno("Drop", e.x.Drop(2), api.OK)
	e.is("2 is not there", e.x.Look(2).Ino, 0)
	e.makes(1, "next", file, 2, api.OK)
}

func TestThirdExample(t *testing.T) {
	e := exampleTree(t)
	e.makes(1, "/", file, 0, api.ErrTreeName)
	e.errno("Unlink", e.x.Unlink(1, "a/.."), api.ErrTreeName)
	e.makes(1, "/none/x", file, 0, api.ErrTreeNone)
	e.makes(1, "/abcdefghijklmnopq", file, 2, api.OK)
	e.finds(1, "abcdefghijklmnXYZ", 2, api.OK)
}
