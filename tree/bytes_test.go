package tree_test

// P9.8, P9.14.

import (
	"bytes"
	"math"
	"testing"

	"hartix/api"
)

// offsets gives places in a file, its edges and those of its blocks, and places that are none.
func offsets(size int) []int {
	all := []int{math.MinInt, -page, -1, 0, 1, size - 1, size, size + 1, size + page, most, math.MaxInt}
	for at := page; at <= size+page; at += page {
		all = append(all, at-1, at, at+1)
	}
	return all
}

func TestRead(t *testing.T) {
	w := grove(t, 20)
	w.write(4, 0, filled(9000, 1))
	for ino := -1; ino <= 10; ino++ {
		for _, off := range offsets(9000) {
			for _, n := range []int{math.MinInt, -1, 0, 1, 9, page - 1, page, page + 1, 8999, 9000, 9001, math.MaxInt} {
				w.read(ino, off, n)
			}
		}
	}
	w.check("Read")
	for _, ino := range []int{math.MinInt, 199, 200, 1<<32 + 1, math.MaxInt} {
		if b := w.x.Read(ino, 0, 9); b != nil {
			t.Errorf("Read of %d: %v", ino, b)
		}
	}
}

func TestReadByHand(t *testing.T) {
	w := begin(t, 12)
	f := w.made(1, "/f", file)
	c := w.made(1, "/c", device)
	w.write(f, 0, []byte("0123456789"))
	for _, k := range []struct {
		ino, off, n int
		want        string
	}{{f, 0, 10, "0123456789"}, {f, 0, 11, "0123456789"}, {f, 3, 4, "3456"}, {f, 9, 5, "9"}, {f, 10, 5, ""}, {f, 11, 0, ""}, {f, 0, 0, ""}, {f, 0, -1, ""}, {f, -1, 5, ""}, {c, 0, 5, ""}, {9, 0, 5, ""}, {1, 2, 1, "."}, {1, 18, 3, "..\x00"}, {1, 34, 1, "f"}} {
		got := w.x.Read(k.ino, k.off, k.n)
		if string(got) != k.want || (got == nil) != (k.want == "") {
			t.Errorf("Read(%d, %d, %d) = %q, want %q", k.ino, k.off, k.n, got, k.want)
		}
	}
}

func TestWriteAtEveryEdge(t *testing.T) {
	for _, size := range []int{0, 1, 100, page - 1, page, page + 1, 2 * page, 9000} {
		for _, off := range offsets(size) {
			for _, n := range []int{0, 1, 9, page - 1, page, page + 1, 2*page + 1} {
				w := begin(t, 12)
				f := w.made(1, "/f", file)
				w.write(f, 0, filled(size, 1))
				w.write(f, off, filled(n, 0x77))
			}
		}
	}
}

func TestWriteOfWhatIsNoFile(t *testing.T) {
	w := grove(t, 20)
	for _, ino := range []int{math.MinInt, -1, 0, 1, 2, 3, 5, 6, 9, 199, 200, 1<<32 + 4, math.MaxInt} {
		for _, b := range [][]byte{nil, {}, {1}} {
			if got := w.write(ino, 0, b); got != -1 {
				t.Errorf("Write of inode %d = %d", ino, got)
			}
		}
	}
	if w.write(4, 0, nil) != 0 || w.write(4, 0, []byte{}) != 0 || w.write(4, 1, nil) != -1 || w.write(4, -1, nil) != -1 {
		t.Error("Write of nothing")
	}
	if w.write(7, 5, []byte("any")) != 3 {
		t.Error("Write of a file without a name")
	}
}

// With each number of free frames: what lies in blocks that are there, and in as many new ones as there are frames.
func TestWriteWithoutRoom(t *testing.T) {
	for free := range 5 {
		for _, size := range []int{0, 1, page - 1, page, page + 100} {
			for _, back := range []int{0, 1, 50} {
				for _, n := range []int{0, 1, page, page + 1, 4*page + 5, 9 * page} {
					w := begin(t, 20)
					f := w.made(1, "/f", file)
					w.write(f, 0, filled(size, 1))
					w.leave(free)
					off := max(0, size-back)
					inBlocks := (size+page-1)/page*page - off
					want := min(n, inBlocks+free*page)
					if got := w.write(f, off, filled(n, 0x33)); got != want {
						t.Errorf("%d free, %d of %d: Write = %d, want %d", free, off, size, got, want)
					}
				}
			}
		}
	}
}

func TestWriteUpToTheMost(t *testing.T) {
	w := begin(t, 90)
	f := w.made(1, "/f", file)
	if got := w.write(f, 0, filled(most+1, 1)); got != most {
		t.Fatalf("Write = %d", got)
	}
	if look := w.x.Look(f); look.Size != 262144 || len(look.Blocks) != 64 {
		t.Errorf("%d bytes, %d blocks", look.Size, len(look.Blocks))
	}
	for _, c := range []struct{ off, n, want int }{{most, 0, 0}, {most, 1, 0}, {most, 5000, 0}, {most - 1, 9, 1}, {most - page, page + 1, page}, {most + 1, 1, -1}, {most + 1, 0, -1}, {0, most + page, most}} {
		if got := w.write(f, c.off, filled(c.n, 2)); got != c.want {
			t.Errorf("Write(%d, %d bytes) = %d, want %d", c.off, c.n, got, c.want)
		}
	}
	w.leave(0)
	if got := w.write(f, 100, filled(most, 3)); got != most-100 {
		t.Errorf("Write without a free frame = %d", got)
	}
	free := w.r.Count()
	w.code("Trunc", w.trunc(f), api.OK)
	w.countIs("all blocks", free+64)
}

// A file grows up to the most bit by bit, and with one write less than that.
func TestWriteBitByBit(t *testing.T) {
	w := begin(t, 90)
	f := w.made(1, "/f", file)
	g := w.made(1, "/g", file)
	var all []byte
	for k := 0; len(all) < 3*page; k++ {
		b := filled(1+k*37%700, byte(k))
		if got := w.x.Write(f, len(all), b); got != len(b) {
			t.Fatalf("Write = %d", got)
		}
		all = append(all, b...)
		if k%3 == 0 {
			w.x.Write(g, w.x.Look(g).Size, b)
		}
	}
	if !bytes.Equal(w.x.Read(f, 0, most), all) {
		t.Error("other bytes are read")
	}
	if got := w.x.Write(f, len(all), filled(most, 0)); got != most-len(all) {
		t.Errorf("Write of the rest = %d", got)
	}
}

func TestTrunc(t *testing.T) {
	w := grove(t, 20)
	for _, size := range []int{0, 1, page, page + 1, 9000} {
		free := w.r.Count()
		w.write(4, 0, filled(size, 1))
		w.code("Trunc", w.trunc(4), api.OK)
		w.countIs("its blocks", free)
		if w.x.Look(4).Size != 0 || w.x.Look(4).Blocks != nil || w.x.Read(4, 0, 9) != nil {
			t.Errorf("%+v", w.x.Look(4))
		}
		w.code("Trunc again", w.trunc(4), api.OK)
	}
	w.code("Trunc of one without a name", w.trunc(7), api.OK)
	for _, ino := range []int{1, 2, 3, 5, 6} {
		w.code("Trunc of no file", w.trunc(ino), api.ErrTreeDir)
	}
	for _, ino := range []int{math.MinInt, -1, 0, 9, 199, 200, 1<<32 + 4, math.MaxInt} {
		w.code("Trunc of none", w.trunc(ino), api.ErrTreeIno)
	}
}

// What a file had before it was emptied does not come back, nor does what a frame had before.
func TestNothingOldIsRead(t *testing.T) {
	w := begin(t, 12)
	f := w.made(1, "/f", file)
	w.write(f, 0, filled(2*page, 0x55))
	w.trunc(f)
	w.write(f, 0, []byte("a"))
	w.write(f, 1, []byte("b"))
	if got := string(w.x.Read(f, 0, most)); got != "ab" {
		t.Errorf("%.20q", got)
	}
	d := w.made(1, "/d", dir)
	if got := w.x.List(d); len(got) != 2 {
		t.Errorf("%v", got)
	}
}

// Files side by side keep what was written to each (P9.14).
func TestFilesSideBySide(t *testing.T) {
	w := begin(t, 60)
	var files []int
	for _, name := range []string{"a", "b", "c", "d"} {
		files = append(files, w.made(1, name, file))
	}
	s := scatter(11)
	for k := range 60 {
		f := pick(&s, files...)
		off := s.below(w.x.Look(f).Size + 1)
		w.write(f, off, filled(s.below(3*page), byte(k)))
		if s.below(8) == 0 {
			w.trunc(f)
		}
	}
}
