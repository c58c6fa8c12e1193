package tree_test

// P9.7, and what is gone.

import (
	"strings"
	"testing"

	"hartix/api"
)

func TestUnlinkOfAFile(t *testing.T) {
	w := begin(t, 20)
	f := w.made(1, "/f", file)
	w.write(f, 0, filled(9000, 1))
	w.link(f, 1, "g")
	free := w.r.Count()
	w.code("Unlink", w.unlink(1, "f"), api.OK)
	w.countIs("it has a name left", free)
	w.code("Unlink", w.unlink(1, "f"), api.ErrTreeNone)
	w.code("Unlink", w.unlink(1, "g"), api.OK)
	w.countIs("it is not there", free+3)
	if w.x.Look(f).Ino != 0 {
		t.Errorf("%+v", w.x.Look(f))
	}
}

func TestUnlinkOfWhatIsHeld(t *testing.T) {
	w := begin(t, 20)
	f := w.made(1, "/f", file)
	w.write(f, 0, filled(9000, 1))
	w.hold(f)
	w.hold(f)
	free := w.r.Count()
	w.code("Unlink", w.unlink(1, "f"), api.OK)
	w.countIs("it is held", free)
	if w.write(f, 9000, []byte("more")) != 4 || string(w.x.Read(f, 9000, 9)) != "more" {
		t.Error("it can't be written")
	}
	w.drop(f)
	w.countIs("it is held once more", free)
	w.drop(f)
	w.countIs("it is not held", free+3)
}

// The entry's 16 bytes are 0; the directory keeps its size and its blocks.
func TestUnlinkLeavesAnEmptyEntry(t *testing.T) {
	w := begin(t, 20)
	f := w.made(1, "/f", file)
	d := w.made(1, "/d", dir)
	w.linkAll(f, "/d/", manyNames(600))
	before := w.x.Look(d)
	free := w.r.Count()
	for _, name := range manyNames(600) {
		w.m.wantUnlink(d, name)
		w.x.Unlink(d, name)
	}
	w.check("all names taken away")
	if look := w.x.Look(d); look.Size != 602*16 || len(look.Blocks) != len(before.Blocks) {
		t.Errorf("%d bytes, %d blocks", look.Size, len(look.Blocks))
	}
	if b := w.x.Read(d, 32, 600*16); string(b) != strings.Repeat("\x00", 600*16) {
		t.Error("the entries are not empty")
	}
	w.countIs("the directory's blocks", free)
	w.code("Unlink of it", w.unlink(1, "d"), api.OK)
	w.countIs("its blocks are given back", free+3)
}

func TestUnlinkOfDirectories(t *testing.T) {
	for _, typ := range []int{dir, file, device} {
		for _, behind := range []int{0, 1, 300} {
			w := begin(t, 20)
			f := w.made(1, "/f", file)
			d := w.made(1, "/d", dir)
			w.linkAll(f, "/d/", manyNames(behind))
			w.made(d, "last", typ)
			for _, name := range manyNames(behind) {
				w.m.wantUnlink(d, name)
				w.x.Unlink(d, name)
			}
			w.code("Unlink", w.unlink(1, "d"), api.ErrTreeFull)
			w.code("Unlink", w.unlink(d, "last"), api.OK)
			w.code("Unlink", w.unlink(1, "d"), api.OK)
			if w.x.Look(1).Links != 1 || w.x.Look(d).Ino != 0 {
				t.Errorf("%+v, %+v", w.x.Look(1), w.x.Look(d))
			}
		}
	}
}

// A directory that is gone has nothing, and takes nothing, whoever holds it.
func TestGoneDirectory(t *testing.T) {
	w := begin(t, 20)
	f := w.made(1, "/f", file)
	up := w.made(1, "/up", dir)
	d := w.made(up, "d", dir)
	w.hold(d)
	w.hold(d)
	free := w.r.Count()
	w.code("Unlink", w.unlink(d, "../d"), api.OK)
	w.countIs("its block", free+1)
	if w.x.Look(up).Links != 1 || w.x.Look(d).Links != 0 {
		t.Errorf("%+v, %+v", w.x.Look(up), w.x.Look(d))
	}
	for _, path := range []string{".", "..", "../d", "x", "./.."} {
		n, errno := w.find(d, path)
		if n != 0 || errno != api.ErrTreeNone {
			t.Errorf("Find of %s = %d, %d", path, n, errno)
		}
	}
	for typ := 1; typ <= 3; typ++ {
		w.code("Make", w.make(d, "x", typ), api.ErrTreeGone)
	}
	w.code("Link", w.link(f, d, "x"), api.ErrTreeGone)
	w.code("Unlink", w.unlink(d, "x"), api.ErrTreeNone)
	w.code("Unlink", w.unlink(d, ".."), api.ErrTreeName)
	w.code("Trunc", w.trunc(d), api.ErrTreeDir)
	if w.read(d, 0, 9) != nil || w.x.List(d) != nil || w.write(d, 0, []byte{1}) != -1 {
		t.Error("it has bytes")
	}
	w.code("Make of the name", w.make(up, "d", dir), api.OK)
	w.code("Drop", w.drop(d), api.OK)
	w.code("Make", w.make(d, "x", file), api.ErrTreeGone)
	w.code("Drop", w.drop(d), api.OK)
	w.code("Drop", w.drop(d), api.ErrTreeIno)
	if n := w.made(1, "other", file); n != d {
		t.Errorf("its number is not given again: %d", n)
	}
}

// A directory of many blocks that is gone gives all of them back at once.
func TestGoneDirectoryOfManyBlocks(t *testing.T) {
	w := begin(t, 40)
	f := w.made(1, "/f", file)
	d := w.made(1, "/d", dir)
	w.hold(d)
	w.linkAll(f, "/d/", manyNames(2000))
	for _, name := range manyNames(2000) {
		w.m.wantUnlink(d, name)
		w.x.Unlink(d, name)
	}
	free := w.r.Count()
	w.code("Unlink", w.unlink(1, "d"), api.OK)
	w.countIs("its blocks", free+8)
	w.code("Drop", w.drop(d), api.OK)
	w.countIs("it has none any more", free+8)
}

func TestUnlinkReasonsInOrder(t *testing.T) {
	w := grove(t, 20)
	w.leave(0)
	for _, c := range []struct {
		cwd  int
		path string
		want api.Errno
	}{
		{0, "a\x00", api.ErrTreeIno}, {9, "/a", api.ErrTreeIno}, {200, "", api.ErrTreeIno}, {-1, "", api.ErrTreeIno},
		{1, "..\x00", api.ErrTreePath}, {4, strings.Repeat("/", 128), api.ErrTreePath},
		{1, "", api.ErrTreeName}, {1, "/", api.ErrTreeName}, {1, ".", api.ErrTreeName}, {2, "..", api.ErrTreeName}, {1, "none/.", api.ErrTreeName}, {1, "c/..", api.ErrTreeName}, {5, "..", api.ErrTreeName}, {6, ".", api.ErrTreeName}, {1, "a/.///", api.ErrTreeName},
		{1, "none/x", api.ErrTreeNone}, {6, "./x", api.ErrTreeNone}, {1, "c/y/x", api.ErrTreeDir}, {1, "c/x", api.ErrTreeDir}, {4, "x", api.ErrTreeDir}, {7, "x", api.ErrTreeDir},
		{1, "none", api.ErrTreeNone}, {6, "x", api.ErrTreeNone}, {2, "a", api.ErrTreeNone}, {2, "fourteen byte", api.ErrTreeNone},
		{1, "a", api.ErrTreeFull}, {3, "../b", api.ErrTreeFull}, {3, "/a", api.ErrTreeFull},
		{1, "c/", api.OK}, {3, "f", api.OK}, {2, "fourteen bytes, cut", api.OK}, {3, "/a/b/", api.OK}, {1, "a", api.OK},
	} {
		w.code(c.path, w.unlink(c.cwd, c.path), c.want)
	}
	if w.x.Left() != 199-3 {
		t.Errorf("%d inodes are left", w.x.Left())
	}
}

// Everything made and taken away again leaves as many frames and inodes as there were (W4).
func TestNothingLeaks(t *testing.T) {
	w := begin(t, 60)
	free, left := w.r.Count(), w.x.Left()
	for round := range 3 {
		d := w.made(1, "/d", dir)
		for _, name := range []string{"a", "b", "c"} {
			sub := w.made(d, name, dir)
			f := w.made(sub, "f", file)
			w.write(f, 0, filled(6000+round, 4))
			w.link(f, d, "f"+name)
		}
		for _, path := range []string{"d/a/f", "d/fa", "d/fb", "d/b/f", "d/c/f", "d/fc", "d/b", "d/a", "d/c", "d"} {
			w.code("Unlink of "+path, w.unlink(1, path), api.OK)
		}
		w.countIs("all taken away", free)
		if w.x.Left() != left || w.x.Look(1).Links != 1 {
			t.Errorf("%d inodes are left, want %d", w.x.Left(), left)
		}
	}
}
