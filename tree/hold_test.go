package tree_test

// P9.9, P9.10.

import (
	"math"
	"reflect"
	"testing"

	"hartix/api"
)

func TestHoldAndDrop(t *testing.T) {
	w := grove(t, 20)
	for _, ino := range []int{1, 2, 4, 5, 8} {
		w.code("Drop of one that is not held", w.drop(ino), api.ErrArg)
		for n := 1; n <= 3; n++ {
			w.code("Hold", w.hold(ino), api.OK)
			if got := w.x.Look(ino).Refs; got != n {
				t.Errorf("inode %d is held %d times, want %d", ino, got, n)
			}
		}
		for n := 2; n >= 0; n-- {
			w.code("Drop", w.drop(ino), api.OK)
			if got := w.x.Look(ino).Refs; got != n {
				t.Errorf("inode %d is held %d times, want %d", ino, got, n)
			}
		}
		w.code("Drop of one that is held no more", w.drop(ino), api.ErrArg)
	}
	for _, ino := range []int{math.MinInt, -1, 0, 9, 199, 200, 257, 1<<32 + 1, math.MaxInt} {
		w.code("Hold of none", w.hold(ino), api.ErrTreeIno)
		w.code("Drop of none", w.drop(ino), api.ErrTreeIno)
	}
}

// Whoever has neither a name nor a holder is not there, and gives its blocks back.
func TestLastHolder(t *testing.T) {
	for _, typ := range []int{dir, file, device} {
		w := begin(t, 20)
		free := w.r.Count()
		ino := w.made(1, "/x", typ)
		if typ == file {
			w.write(ino, 0, filled(9000, 1))
		}
		w.hold(ino)
		w.hold(ino)
		w.unlink(1, "x")
		w.code("Drop", w.drop(ino), api.OK)
		w.code("Hold", w.hold(ino), api.OK)
		w.code("Drop", w.drop(ino), api.OK)
		w.code("Drop", w.drop(ino), api.OK)
		w.countIs("it is not there", free)
		w.code("Drop", w.drop(ino), api.ErrTreeIno)
		w.code("Hold", w.hold(ino), api.ErrTreeIno)
		w.code("Trunc", w.trunc(ino), api.ErrTreeIno)
	}
}

// Names and holders may go in either order.
func TestHolderAheadOfName(t *testing.T) {
	w := begin(t, 20)
	f := w.made(1, "/f", file)
	w.hold(f)
	w.code("Drop", w.drop(f), api.OK)
	if w.x.Look(f).Ino != f {
		t.Error("it has a name, and is not there")
	}
	w.code("Unlink", w.unlink(1, "f"), api.OK)
	if w.x.Look(f).Ino != 0 || w.x.Left() != 198 {
		t.Errorf("%+v", w.x.Look(f))
	}
}

func TestLooksByHand(t *testing.T) {
	w := grove(t, 20)
	w.write(4, 0, filled(5000, 1))
	w.link(4, 1, "again")
	w.hold(4)
	look := w.x.Look(4)
	if want := (api.InodeLook{Ino: 4, Type: api.TypeFile, Links: 2, Refs: 1, Size: 5000, Blocks: look.Blocks}); !reflect.DeepEqual(look, want) || len(look.Blocks) != 2 {
		t.Errorf("%+v", look)
	}
	if got, want := w.x.Stat(4), (api.Stat{Dev: 1, Ino: 4, Type: 2, Nlink: 2, Size: 5000}); got != want {
		t.Errorf("%+v", got)
	}
	if got, want := w.x.Stat(2), (api.Stat{Dev: 1, Ino: 2, Type: 1, Nlink: 2, Size: 64}); got != want {
		t.Errorf("%+v", got)
	}
	if got, want := w.x.Look(5), (api.InodeLook{Ino: 5, Type: api.TypeDev, Major: 7, Minor: -8, Links: 1}); !reflect.DeepEqual(got, want) {
		t.Errorf("%+v", got)
	}
	if got, want := w.x.Look(6), (api.InodeLook{Ino: 6, Type: api.TypeDir, Refs: 1}); !reflect.DeepEqual(got, want) {
		t.Errorf("%+v", got)
	}
	if got, want := w.x.List(2), []api.Dirent{{Ino: 2, Name: "."}, {Ino: 1, Name: ".."}, {Ino: 3, Name: "b"}, {Ino: 8, Name: "fourteen bytes"}}; !reflect.DeepEqual(got, want) {
		t.Errorf("%v", got)
	}
	if got := w.x.Left(); got != 191 {
		t.Errorf("%d are left", got)
	}
}

func TestLooksOfNone(t *testing.T) {
	w := grove(t, 20)
	for _, ino := range []int{math.MinInt, -1, 0, 9, 199, 200, 257, 1<<32 + 1, math.MaxInt} {
		if w.x.Stat(ino) != (api.Stat{}) || !reflect.DeepEqual(w.x.Look(ino), api.InodeLook{}) || w.x.List(ino) != nil {
			t.Errorf("inode %d", ino)
		}
	}
	for _, ino := range []int{4, 5, 6, 7} {
		if w.x.List(ino) != nil {
			t.Errorf("List of %d", ino)
		}
	}
}
