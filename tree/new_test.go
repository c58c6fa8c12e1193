package tree_test

// P9.2, and trees that New did not give (DOC.md).

import (
	"reflect"
	"testing"

	"hartix/api"
	"hartix/ram"
	"hartix/tree"
)

func TestNewWithoutMemory(t *testing.T) {
	for _, r := range []*ram.Ram{nil, {}} {
		if x, errno := tree.New(r); x != nil || errno != api.ErrZero {
			t.Errorf("New = %v, %d", x, errno)
		}
	}
}

func TestNewWithoutRoom(t *testing.T) {
	for _, frames := range []int{1, 2, 5} {
		r, _ := ram.New(frames)
		for r.Count() > 0 {
			r.Alloc()
		}
		before := r.Image()
		if x, errno := tree.New(r); x != nil || errno != api.ErrTreeRoom {
			t.Errorf("New in %d frames = %v, %d", frames, x, errno)
		}
		if !reflect.DeepEqual(r.Image(), before) {
			t.Errorf("New in %d frames has changed the memory", frames)
		}
	}
}

func TestNew(t *testing.T) {
	for _, frames := range []int{2, 3, 4096} {
		r, _ := ram.New(frames)
		x, errno := tree.New(r)
		if errno != api.OK || r.Count() != frames-2 {
			t.Fatalf("New in %d frames = %d, %d are free", frames, errno, r.Count())
		}
		look := x.Look(1)
		if len(look.Blocks) != 1 || r.IsFree(look.Blocks[0]) {
			t.Fatalf("the root's blocks are %x", look.Blocks)
		}
		want := api.InodeLook{Ino: 1, Type: api.TypeDir, Links: 1, Size: 32, Blocks: look.Blocks}
		if !reflect.DeepEqual(look, want) {
			t.Errorf("the root is %+v", look)
		}
		if got := x.List(1); !reflect.DeepEqual(got, []api.Dirent{{Ino: 1, Name: "."}, {Ino: 1, Name: ".."}}) {
			t.Errorf("the root has %v", got)
		}
		if x.Left() != 198 {
			t.Errorf("%d inodes are left", x.Left())
		}
	}
}

// Two trees in one memory take each its own frames.
func TestTwoTreesInOneMemory(t *testing.T) {
	w := begin(t, 24)
	other, errno := tree.New(w.r)
	w.code("New", errno, api.OK)
	if _, errno := other.Make(1, "/other", api.TypeFile, 0, 0); errno != api.OK || other.Write(2, 0, filled(5000, 9)) != 5000 {
		t.Fatal("the other tree")
	}
	for _, pa := range append(other.Look(1).Blocks, other.Look(2).Blocks...) {
		w.others[pa], _ = w.r.Raw(pa)
	}
	w.check("beside another tree")
	f := w.made(1, "/f", file)
	w.write(f, 0, filled(9000, 1))
	w.made(1, "/d", dir)
	w.unlink(1, "/f")
	if n, errno := other.Find(1, "/other"); n != 2 || errno != api.OK || string(other.Read(2, 0, 5000)) != string(filled(5000, 9)) {
		t.Errorf("the other tree: %d, %d", n, errno)
	}
}

func TestTreesThatNewDidNotGive(t *testing.T) {
	for _, x := range []*tree.Tree{nil, {}} {
		for _, ino := range []int{-1, 0, 1, 2, 199, 200} {
			n, found := x.Find(ino, "/")
			made, making := x.Make(ino, "/a", api.TypeDir, 1, 1)
			if n != 0 || made != 0 {
				t.Errorf("Find %d, Make %d", n, made)
			}
			_, wrong := x.Find(ino, "a\x00")
			_, wrongToo := x.Make(ino, "/", 9, 0, 0)
			for k, errno := range []api.Errno{found, making, wrong, wrongToo, x.Link(ino, 1, "/b"), x.Link(1, ino, "a\x00"), x.Unlink(ino, "/b"), x.Unlink(ino, "/"), x.Trunc(ino), x.Hold(ino), x.Drop(ino)} {
				if errno != api.ErrZero {
					t.Errorf("the call %d of inode %d: %d", k, ino, errno)
				}
			}
			if b := x.Read(ino, 0, 9); b != nil {
				t.Errorf("Read: %v", b)
			}
			if x.Write(ino, 0, nil) != 0 || x.Write(ino, -1, []byte{1}) != 0 || x.Left() != 0 {
				t.Errorf("Write or Left of inode %d", ino)
			}
			if x.Stat(ino) != (api.Stat{}) || !reflect.DeepEqual(x.Look(ino), api.InodeLook{}) || x.List(ino) != nil {
				t.Errorf("the looks of inode %d", ino)
			}
		}
	}
}
