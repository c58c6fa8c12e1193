package tree_test

// P9.6.

import (
	"math"
	"strings"
	"testing"

	"hartix/api"
)

func TestLink(t *testing.T) {
	w := grove(t, 20)
	for k, c := range []struct {
		ino, cwd int
		path     string
	}{{4, 1, "/f"}, {4, 2, "f"}, {4, 4, "/a/b/g"}, {5, 3, "../c"}, {4, 1, "a/b/fourteen bytes cut"}} {
		before := w.x.Look(c.ino).Links
		w.code("Link of "+c.path, w.link(c.ino, c.cwd, c.path), api.OK)
		if n, _ := w.find(c.cwd, c.path); n != c.ino || w.x.Look(c.ino).Links != before+1 {
			t.Errorf("%d: %s is %d, links %d", k, c.path, n, w.x.Look(c.ino).Links)
		}
	}
}

// A file that lost its last name, but is held, may be named again.
func TestLinkOfOneWithoutAName(t *testing.T) {
	w := grove(t, 20)
	w.code("Link", w.link(7, 1, "again"), api.OK)
	w.code("Drop", w.drop(7), api.OK)
	if got := string(w.x.Read(7, 0, 99)); got != "without a name" || w.x.Look(7).Links != 1 {
		t.Errorf("%q, %+v", got, w.x.Look(7))
	}
}

func TestLinkDemand(t *testing.T) {
	for free := range 3 {
		for _, withEmpty := range []bool{false, true} {
			w := begin(t, 12)
			f := w.made(1, "/f", device)
			d := w.made(1, "/d", dir)
			w.code("inside a block", w.link(f, d, "one"), api.OK)
			w.fillUp(f, "/d/")
			if withEmpty {
				w.unlink(d, "n100")
			}
			w.leave(free)
			want, left := api.OK, free
			switch {
			case withEmpty:
			case free == 0:
				want = api.ErrTreeRoom
			default:
				left--
			}
			w.code("Link", w.link(f, d, "new"), want)
			w.countIs("behind Link", left)
		}
	}
}

func TestLinkReasonsInOrder(t *testing.T) {
	w := grove(t, 20)
	w.fillUp(4, "/a/")
	w.leave(0)
	long := strings.Repeat("x", 128)
	for _, c := range []struct {
		ino, cwd int
		path     string
		want     api.Errno
	}{
		{0, 0, "a\x00", api.ErrTreeIno}, {9, 1, "x", api.ErrTreeIno}, {200, 1, "", api.ErrTreeIno}, {-1, 1, "x", api.ErrTreeIno}, {math.MaxInt, 1, "x", api.ErrTreeIno}, {math.MinInt, 1, "x", api.ErrTreeIno}, {1<<32 + 4, 1, "x", api.ErrTreeIno},
		{2, 0, "a\x00", api.ErrTreeDir}, {1, 1, "", api.ErrTreeDir}, {6, 6, "x", api.ErrTreeDir}, {3, 99, "x", api.ErrTreeDir},
		{4, 99, "a\x00", api.ErrTreeIno}, {4, 0, "/x", api.ErrTreeIno}, {5, -1, "", api.ErrTreeIno},
		{4, 1, long, api.ErrTreePath}, {4, 4, "x\x00/..", api.ErrTreePath},
		{4, 1, "", api.ErrTreeName}, {4, 1, "none/..", api.ErrTreeName}, {4, 5, ".", api.ErrTreeName}, {4, 6, "..", api.ErrTreeName}, {4, 1, "/", api.ErrTreeName},
		{4, 1, "none/x", api.ErrTreeNone}, {4, 6, "../x", api.ErrTreeNone}, {4, 1, "c/y/x", api.ErrTreeDir}, {4, 1, "c/x", api.ErrTreeDir}, {4, 4, "x", api.ErrTreeDir}, {7, 7, "x", api.ErrTreeDir},
		{4, 6, "a", api.ErrTreeGone}, {5, 6, "x", api.ErrTreeGone},
		{4, 1, "a", api.ErrTreeTaken}, {4, 2, "n0", api.ErrTreeTaken}, {5, 1, "c", api.ErrTreeTaken}, {7, 2, "b", api.ErrTreeTaken},
		{4, 2, "new", api.ErrTreeRoom}, {5, 1, "a/new", api.ErrTreeRoom},
	} {
		w.code(c.path, w.link(c.ino, c.cwd, c.path), c.want)
	}
}

// A directory of 262144 bytes, and an inode of 32767 names: a full directory takes 16382 entries beside its first two.
func TestFullDirectoriesAndMostNames(t *testing.T) {
	w := begin(t, 160)
	f := w.made(1, "/f", file)
	other := w.made(1, "/other", device)
	full, more := w.made(1, "/full", dir), w.made(1, "/more", dir)
	names := manyNames(16382)
	w.linkAll(f, "/full/", names)
	w.fullDirectory(f, full)
	w.linkAll(f, "/more/", names[:16381])
	w.linkAll(f, "/", names[:3])
	if got := w.x.Look(f).Links; got != 32767 {
		t.Fatalf("%d links", got)
	}
	w.code("one name too many", w.link(f, more, "last"), api.ErrTreeLinks)
	w.code("too many, and taken", w.link(f, more, "n0"), api.ErrTreeTaken)
	w.code("too many, and full", w.link(f, full, "last"), api.ErrTreeLinks)
	w.code("full alone", w.link(other, full, "last"), api.ErrTreeFull)
	w.code("another one", w.link(other, more, "last"), api.OK)
	if got := w.x.Stat(f).Nlink; got != 32767 {
		t.Errorf("Stat tells %d", got)
	}
	w.code("Unlink", w.unlink(full, "n5000"), api.OK)
	w.leave(0)
	w.code("a place and a name again", w.link(f, full, "again"), api.OK)
	w.code("too many, and no room", w.link(f, 1, "too many"), api.ErrTreeLinks)
}

// fullDirectory tells what a directory without room for an entry answers, with frames and inodes free or not.
func (w *world) fullDirectory(f, full int) {
	w.t.Helper()
	if look := w.x.Look(full); look.Size != 262144 || len(look.Blocks) != 64 {
		w.t.Fatalf("the full directory has %d bytes, %d blocks", look.Size, len(look.Blocks))
	}
	free := w.r.Count()
	w.code("Link", w.link(f, full, "last"), api.ErrTreeFull)
	for typ := 1; typ <= 3; typ++ {
		w.code("Make", w.make(full, "last", typ), api.ErrTreeFull)
	}
	w.leave(0)
	w.code("Link without room", w.link(f, full, "last"), api.ErrTreeFull)
	w.code("Make without room", w.make(full, "last", dir), api.ErrTreeFull)
	w.code("Make of a taken name", w.make(full, "n16381", dir), api.ErrTreeTaken)
	w.code("Unlink of all", w.unlink(1, "full"), api.ErrTreeFull)
	w.code("Unlink", w.unlink(full, "n16381"), api.OK)
	w.code("Make in the place that is empty, without room", w.make(full, "last", dir), api.ErrTreeRoom)
	w.leave(1)
	w.code("Make in it", w.make(full, "last", dir), api.OK)
	w.code("Make of one more", w.make(full, "more", file), api.ErrTreeFull)
	w.code("Unlink", w.unlink(full, "last"), api.OK)
	w.code("Link", w.link(f, full, "n16381"), api.OK)
	w.leave(free)
}
