package tree

// The limits that no row of calls reaches in a test's time, or at all: 2^31 - 1 holders, and 32767 links of a directory, which the number of inodes does not let it have. They are set by hand.

import (
	"testing"

	"hartix/api"
	"hartix/ram"
)

func withDirectory(t *testing.T) (*Tree, *ram.Ram) {
	t.Helper()
	r, err := ram.New(8)
	if err != nil {
		t.Fatal(err)
	}
	x, errno := New(r)
	if errno != api.OK {
		t.Fatal(errno)
	}
	if ino, errno := x.Make(1, "/d", api.TypeDir, 0, 0); ino != 2 || errno != api.OK {
		t.Fatal(ino, errno)
	}
	return x, r
}

func TestMostHolders(t *testing.T) {
	x, _ := withDirectory(t)
	x.inodes[2].refs = 1<<31 - 2
	for k, want := range []api.Errno{api.OK, api.ErrTreeLinks, api.ErrTreeLinks} {
		if errno := x.Hold(2); errno != want || x.Look(2).Refs != 1<<31-1 {
			t.Errorf("Hold %d = %d, %d holders", k, errno, x.Look(2).Refs)
		}
	}
	if errno := x.Drop(2); errno != api.OK || x.Look(2).Refs != 1<<31-2 {
		t.Errorf("Drop = %d, %d holders", errno, x.Look(2).Refs)
	}
	if errno := x.Hold(2); errno != api.OK {
		t.Errorf("Hold = %d", errno)
	}
}

func TestMostLinksOfADirectory(t *testing.T) {
	x, r := withDirectory(t)
	x.inodes[2].links = 32766
	if ino, errno := x.Make(2, "last", api.TypeDir, 0, 0); ino != 3 || errno != api.OK || x.Look(2).Links != 32767 {
		t.Fatalf("Make = %d, %d", ino, errno)
	}
	for r.Count() > 0 {
		r.Alloc()
	}
	left := x.Left()
	for _, c := range []struct {
		path string
		typ  int
		want api.Errno
	}{
		{"more", api.TypeDir, api.ErrTreeLinks}, {"last", api.TypeDir, api.ErrTreeTaken}, {"more", 4, api.ErrTreeType},
		{"file", api.TypeFile, api.OK}, {"device", api.TypeDev, api.OK},
	} {
		if _, errno := x.Make(2, c.path, c.typ, 0, 0); errno != c.want {
			t.Errorf("Make of %s, %d = %d, want %d", c.path, c.typ, errno, c.want)
		}
	}
	if x.Look(2).Links != 32767 || x.Left() != left-2 {
		t.Errorf("%d links, %d inodes left", x.Look(2).Links, x.Left())
	}
}

// Too many links are told ahead of the want of an inode.
func TestMostLinksWithoutAnInode(t *testing.T) {
	x, _ := withDirectory(t)
	for range x.Left() {
		x.take(api.TypeFile, 0, 0)
	}
	x.inodes[2].links = 32767
	if _, errno := x.Make(2, "more", api.TypeDir, 0, 0); errno != api.ErrTreeLinks {
		t.Errorf("Make = %d", errno)
	}
	if _, errno := x.Make(2, "more", api.TypeFile, 0, 0); errno != api.ErrTreeNodes {
		t.Errorf("Make = %d", errno)
	}
}
