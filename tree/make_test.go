package tree_test

// P9.5.

import (
	"math"
	"strings"
	"testing"

	"hartix/api"
)

func TestMakeOfEachType(t *testing.T) {
	w := begin(t, 12)
	for k, c := range []struct {
		path         string
		typ          int
		major, minor int16
		size, blocks int
	}{
		{"/d", dir, 3, 4, 32, 1}, {"/f", file, 3, 4, 0, 0}, {"/c", device, 3, 4, 0, 0}, {"/d/c", device, math.MinInt16, math.MaxInt16, 0, 0}, {"d/d", dir, -1, -1, 32, 1}, {"d/d/f", file, -1, -1, 0, 0}, {"d/none", device, 0, 0, 0, 0},
	} {
		ino, errno := w.makeDevice(1, c.path, c.typ, c.major, c.minor)
		w.code("Make of "+c.path, errno, api.OK)
		look := w.x.Look(ino)
		if ino != 2+k || look.Links != 1 || look.Refs != 0 || look.Size != c.size || len(look.Blocks) != c.blocks {
			t.Errorf("%s: %+v", c.path, look)
		}
		if c.typ != device {
			c.major, c.minor = 0, 0
		}
		if look.Major != c.major || look.Minor != c.minor {
			t.Errorf("%s: %+v", c.path, look)
		}
	}
}

func TestMakeCountsDirectories(t *testing.T) {
	w := begin(t, 20)
	d := w.made(1, "/d", dir)
	for k, typ := range []int{file, dir, device, dir, dir} {
		w.made(d, string(rune('a'+k)), typ)
	}
	if got := w.x.Look(d).Links; got != 4 {
		t.Errorf("%d links", got)
	}
	w.made(1, "/d/b/x", dir)
	if d, b := w.x.Look(d).Links, w.x.Look(4).Links; d != 4 || b != 2 {
		t.Errorf("%d, %d links", d, b)
	}
}

// The lowest free number is given, whichever order they were let go in.
func TestMakeGivesTheLowestNumber(t *testing.T) {
	w := begin(t, 20)
	w.makeAll("/", 100)
	for _, name := range []string{"n40", "n7", "n90", "n8"} {
		w.unlink(1, name)
	}
	for k, want := range []int{9, 10, 42, 92, 100, 101} {
		if got := w.made(1, "new"+string(rune('a'+k)), file); got != want {
			t.Errorf("made as %d, want %d", got, want)
		}
	}
}

func TestMakeUntilNoInodeIsFree(t *testing.T) {
	w := begin(t, 20)
	w.makeAll("/", 0)
	if got := w.x.Look(199); got.Ino != 199 {
		t.Errorf("the last one: %+v", got)
	}
	for typ := 1; typ <= 3; typ++ {
		w.code("Make", w.make(1, "more", typ), api.ErrTreeNodes)
	}
	w.code("Hold", w.hold(50), api.OK)
	w.code("Unlink", w.unlink(1, "n48"), api.OK)
	w.code("Make", w.make(1, "more", file), api.ErrTreeNodes)
	w.code("Drop", w.drop(50), api.OK)
	if got := w.made(1, "more", dir); got != 50 {
		t.Errorf("made as %d", got)
	}
	w.code("Make", w.make(1, "still", file), api.ErrTreeNodes)
}

// A new entry stands in the first empty one, else behind the last.
func TestMakeTakesTheFirstEmptyEntry(t *testing.T) {
	w := begin(t, 20)
	for _, name := range []string{"a", "b", "c", "d", "e"} {
		w.made(1, name, file)
	}
	for _, name := range []string{"d", "b", "e"} {
		w.unlink(1, name)
	}
	for _, c := range []struct {
		name     string
		at, size int
	}{{"x", 48, 112}, {"y", 80, 112}, {"z", 96, 112}, {"behind", 112, 128}} {
		w.made(1, c.name, device)
		if b := w.x.Read(1, c.at+2, len(c.name)); string(b) != c.name || w.x.Look(1).Size != c.size {
			t.Errorf("%s is not at %d of %d: %q", c.name, c.at, w.x.Look(1).Size, b)
		}
	}
}

// demandOf makes one of a type in a directory whose size is a multiple of 4096, or is not, with so many free frames.
func demandOf(t *testing.T, typ, free int, atBorder, withEmpty bool) (*world, api.Errno) {
	t.Helper()
	w := begin(t, 12)
	f := w.made(1, "/f", file)
	d := w.made(1, "/d", dir)
	if atBorder {
		w.fillUp(f, "/d/")
	} else {
		w.link(f, d, "n0")
	}
	if withEmpty {
		w.unlink(d, "n0")
	}
	w.leave(free)
	return w, w.make(d, "new", typ)
}

func TestMakeDemand(t *testing.T) {
	for typ := 1; typ <= 3; typ++ {
		for _, atBorder := range []bool{false, true} {
			for _, withEmpty := range []bool{false, true} {
				demand := 0
				if atBorder && !withEmpty {
					demand++
				}
				if typ == dir {
					demand++
				}
				for free := range 4 {
					w, errno := demandOf(t, typ, free, atBorder, withEmpty)
					if free < demand {
						w.code("Make without room", errno, api.ErrTreeRoom)
						w.countIs("without room", free)
						continue
					}
					w.code("Make", errno, api.OK)
					w.countIs("behind Make", free-demand)
				}
			}
		}
	}
}

// A refused Make has taken no inode: the next one is given the same number.
func TestRefusedMakeTakesNothing(t *testing.T) {
	w, errno := demandOf(t, dir, 1, true, false)
	w.code("Make", errno, api.ErrTreeRoom)
	left := w.x.Left()
	for range 300 {
		w.x.Make(3, "new", api.TypeDir, 0, 0)
	}
	w.check("refused often")
	if w.x.Left() != left {
		t.Errorf("%d inodes are left, want %d", w.x.Left(), left)
	}
	w.leave(2)
	if ino := w.made(3, "new", dir); ino != 4 {
		t.Errorf("made as %d", ino)
	}
}

// Where several reasons apply the chapter's first holds: each of these calls has one of the later ones too, as far as it can.
func TestMakeReasonsInOrder(t *testing.T) {
	w := grove(t, 20)
	w.fillUp(4, "/a/")
	w.makeAll("/", 0)
	w.leave(0)
	long := strings.Repeat("x", 128)
	for _, c := range []struct {
		cwd  int
		path string
		typ  int
		want api.Errno
	}{
		{0, "a\x00", 9, api.ErrTreeIno}, {200, "/", file, api.ErrTreeIno}, {-3, "/a", file, api.ErrTreeIno},
		{1, long, 9, api.ErrTreePath}, {1, "/..\x00", file, api.ErrTreePath}, {5, "x\x00", 0, api.ErrTreePath},
		{1, "", 9, api.ErrTreeName}, {1, "none/..", file, api.ErrTreeName}, {1, "c/.", file, api.ErrTreeName}, {5, "", file, api.ErrTreeName}, {6, ".", 9, api.ErrTreeName}, {6, "..", file, api.ErrTreeName}, {1, "//", file, api.ErrTreeName}, {1, "none/./", file, api.ErrTreeName},
		{1, "none/x", 9, api.ErrTreeNone}, {6, "a/x", 9, api.ErrTreeNone}, {6, "./x", file, api.ErrTreeNone}, {1, "c/y/x", 9, api.ErrTreeDir},
		{1, "c/x", 9, api.ErrTreeDir}, {5, "x", 9, api.ErrTreeDir}, {7, "x", 9, api.ErrTreeDir},
		{6, "x", 0, api.ErrTreeType}, {1, "a", 4, api.ErrTreeType}, {1, "a", -1, api.ErrTreeType}, {1, "y", math.MaxInt, api.ErrTreeType}, {1, "y", math.MinInt, api.ErrTreeType}, {1, "y", 1<<32 + 2, api.ErrTreeType}, {1, "y", 1<<16 + 1, api.ErrTreeType},
		{6, "x", file, api.ErrTreeGone}, {6, "a", dir, api.ErrTreeGone},
		{1, "a", dir, api.ErrTreeTaken}, {2, "b", file, api.ErrTreeTaken}, {2, "n0", device, api.ErrTreeTaken}, {1, "/a/", dir, api.ErrTreeTaken},
		{1, "y", file, api.ErrTreeNodes}, {2, "y", dir, api.ErrTreeNodes}, {1, "y", device, api.ErrTreeNodes},
	} {
		w.code(c.path, w.make(c.cwd, c.path, c.typ), c.want)
	}
	w.unlink(1, "n0")
	w.code("a directory in a directory at a border", w.make(2, "y", dir), api.ErrTreeRoom)
	w.code("a file in a directory at a border", w.make(2, "y", file), api.ErrTreeRoom)
	w.code("a directory elsewhere", w.make(1, "y", dir), api.ErrTreeRoom)
	w.code("a file elsewhere", w.make(1, "y", file), api.OK)
}

// Make of a path with slashes behind its last name makes that.
func TestMakeWithSlashes(t *testing.T) {
	w := begin(t, 12)
	w.code("Make", w.make(1, "///d///", dir), api.OK)
	w.code("Make", w.make(1, "d//f//", file), api.OK)
	w.code("Make", w.make(3, "/d/./../d/g/", file), api.OK)
	for k, path := range []string{"/d", "/d/f", "/d/g"} {
		if n, _ := w.find(1, path); n != 2+k {
			t.Errorf("%s is %d", path, n)
		}
	}
}

// Names may have any byte but 0 and the slash.
func TestNamesOfAnyBytes(t *testing.T) {
	w := begin(t, 12)
	for c := 1; c < 256; c++ {
		name := string([]byte{byte(c)})
		if c == '/' || c == '.' {
			continue
		}
		if w.x.Left() == 0 {
			break
		}
		ino := w.made(1, name, file)
		if n, _ := w.find(1, "/"+name); n != ino {
			t.Errorf("%q is found as %d", name, n)
		}
	}
}
