package tree_test

// DOC.md, Memory: what is handed in is neither changed nor kept, what is handed out is new.

import (
	"bytes"
	"slices"
	"testing"

	"hartix/api"
	"hartix/tree"
)

func spoil(b []byte) {
	b = b[:cap(b)]
	for k := range b {
		b[k] ^= 0xFF
	}
}

func TestWriteKeepsItsArgument(t *testing.T) {
	for _, n := range []int{0, 1, 9, page, page + 1, 9000} {
		w := begin(t, 20)
		f := w.made(1, "/f", file)
		room := filled(n+64, 0x21)
		want := bytes.Clone(room)
		if got := w.x.Write(f, 0, room[:n]); got != n || !bytes.Equal(room, want) {
			t.Errorf("%d bytes: %d, what was handed in was changed", n, got)
		}
		spoil(room)
		if !bytes.Equal(w.x.Read(f, 0, n), want[:n]) {
			t.Errorf("%d bytes: what was handed in was kept", n)
		}
	}
}

func TestUnpackKeepsItsArgument(t *testing.T) {
	room := append([]byte("\x01\x00abc\x00\x00\x00\x00\x00\x00\x00\x00\x00\x00\x00"), "behind"...)
	want := bytes.Clone(room)
	e, _ := tree.Unpack(room[:16])
	if !bytes.Equal(room, want) {
		t.Error("what was handed in was changed")
	}
	spoil(room)
	if e.Name != "abc" {
		t.Errorf("what was handed in was kept: %q", e.Name)
	}
}

func TestBytesHandedOutAreNew(t *testing.T) {
	w := grove(t, 20)
	w.write(4, 0, filled(9000, 1))
	for _, c := range [][3]int{{4, 0, 9}, {4, 0, 9000}, {4, 4000, 200}, {1, 0, 48}, {2, 0, 16}} {
		one, two := w.x.Read(c[0], c[1], c[2]), w.x.Read(c[0], c[1], c[2])
		want := bytes.Clone(two)
		spoil(one)
		if !bytes.Equal(two, want) {
			t.Errorf("%v: two answers share memory", c)
		}
		w.check("an answer was written into")
	}
	one, two := tree.Pack(api.Dirent{Ino: 1, Name: "a"}), tree.Pack(api.Dirent{Ino: 1, Name: "a"})
	spoil(one)
	if !bytes.Equal(two, packed(slot{1, "a"})) {
		t.Error("two answers of Pack share memory")
	}
}

func TestListsHandedOutAreNew(t *testing.T) {
	w := grove(t, 20)
	w.write(4, 0, filled(9000, 1))
	blocks, others := w.x.Look(4).Blocks, w.x.Look(4).Blocks
	want := slices.Clone(others)
	clear(blocks[:cap(blocks)])
	list, too := w.x.List(2), w.x.List(2)
	wantList := slices.Clone(too)
	clear(list[:cap(list)])
	names, again := mustSplit("/a/b"), mustSplit("/a/b")
	clear(names[:cap(names)])
	if !slices.Equal(others, want) || !slices.Equal(too, wantList) || !slices.Equal(again, []string{"a", "b"}) {
		t.Error("two answers share memory")
	}
	w.check("an answer was written into")
}

func mustSplit(path string) []string {
	names, _ := tree.Split(path)
	return names
}

// A look that was given stays as it is, whatever becomes of the tree.
func TestLooksStay(t *testing.T) {
	w := grove(t, 20)
	w.write(4, 0, filled(5000, 1))
	look, list, b := w.x.Look(4), w.x.List(2), w.x.Read(4, 0, 5000)
	blocks := slices.Clone(look.Blocks)
	w.trunc(4)
	w.unlink(2, "fourteen bytes")
	w.made(2, "other", dir)
	if look.Size != 5000 || !slices.Equal(look.Blocks, blocks) || list[3].Name != "fourteen bytes" || !bytes.Equal(b, filled(5000, 1)) {
		t.Errorf("%+v, %v", look, list)
	}
}
