package tree_test

// A memory with a tree in it, beside what the chapter says that it must be: every call is made on both, and behind each one everything is held against each other (P9.11, P9.12, P9.14).

import (
	"bytes"
	"fmt"
	"maps"
	"math"
	"reflect"
	"slices"
	"testing"

	"hartix/api"
	"hartix/ram"
	"hartix/tree"
)

const first = 0x80000000 // the first frame

type world struct {
	t      *testing.T
	r      *ram.Ram
	x      *tree.Tree
	m      *plain
	others map[uint64][]byte // the held frames that are not the tree's, and their bytes
}

// begin makes a tree in a memory of so many frames, one of them held by somebody else.
func begin(t *testing.T, frames int) *world {
	t.Helper()
	r, err := ram.New(frames)
	if err != nil {
		t.Fatal(err)
	}
	w := &world{t: t, r: r, m: wantNew(), others: map[uint64][]byte{}}
	w.others[first], _ = r.Raw(first)
	w.frame()
	var errno api.Errno
	if w.x, errno = tree.New(r); errno != api.OK {
		t.Fatalf("New = %d", errno)
	}
	w.check("New")
	return w
}

// frame takes a frame that is not the tree's.
func (w *world) frame() {
	w.t.Helper()
	pa, ok := w.r.Alloc()
	if !ok {
		w.t.Fatal("no frame is free")
	}
	w.others[pa] = bytes.Repeat([]byte{byte(pa >> 12), 0xC3}, page/2)
	w.r.Write(pa, w.others[pa])
}

// leave takes or gives back frames until so many are free.
func (w *world) leave(free int) {
	w.t.Helper()
	for w.r.Count() > free {
		w.frame()
	}
	for _, pa := range slices.Sorted(maps.Keys(w.others)) {
		if w.r.Count() < free && pa != first {
			w.r.Free(pa)
			delete(w.others, pa)
		}
	}
	w.countIs("left", free)
}

func (w *world) countIs(what string, free int) {
	w.t.Helper()
	if got := w.r.Count(); got != free {
		w.t.Fatalf("%s: %d frames are free, want %d", what, got, free)
	}
}

// code holds an outcome against the one that a test says.
func (w *world) code(what string, got, want api.Errno) {
	w.t.Helper()
	if got != want {
		w.t.Fatalf("%s = %d, want %d", what, got, want)
	}
}

// asked holds an outcome against the one that is due: a refusal has changed nothing at all.
func (w *world) asked(what string, got, want api.Errno, before api.RamImage) api.Errno {
	w.t.Helper()
	w.code(what, got, want)
	if want != api.OK && !reflect.DeepEqual(w.r.Image(), before) {
		w.t.Fatalf("%s = %d has changed the memory", what, got)
	}
	w.check(what)
	return want
}

func (w *world) find(cwd int, path string) (int, api.Errno) {
	w.t.Helper()
	want, wantErrno := w.m.wantFind(cwd, path)
	if got, errno := w.x.Find(cwd, path); got != want || errno != wantErrno {
		w.t.Fatalf("Find(%d, %q) = %d, %d, want %d, %d", cwd, path, got, errno, want, wantErrno)
	}
	return want, wantErrno
}

func (w *world) makeDevice(cwd int, path string, typ int, major, minor int16) (int, api.Errno) {
	w.t.Helper()
	before := w.r.Image()
	want, wantErrno := w.m.wantMake(w.r.Count(), cwd, path, typ, major, minor)
	got, errno := w.x.Make(cwd, path, typ, major, minor)
	what := fmt.Sprintf("Make(%d, %q, %d)", cwd, path, typ)
	if got != want {
		w.t.Fatalf("%s = %d, %d, want %d, %d", what, got, errno, want, wantErrno)
	}
	return want, w.asked(what, errno, wantErrno, before)
}

// make hands numbers in that a device alone keeps.
func (w *world) make(cwd int, path string, typ int) api.Errno {
	w.t.Helper()
	_, errno := w.makeDevice(cwd, path, typ, -5, 6)
	return errno
}

// made makes what can be made, and tells its number.
func (w *world) made(cwd int, path string, typ int) int {
	w.t.Helper()
	ino, errno := w.makeDevice(cwd, path, typ, 7, -8)
	w.code("Make of "+path, errno, api.OK)
	return ino
}

func (w *world) link(ino, cwd int, path string) api.Errno {
	w.t.Helper()
	before := w.r.Image()
	want := w.m.wantLink(w.r.Count(), ino, cwd, path)
	return w.asked(fmt.Sprintf("Link(%d, %d, %q)", ino, cwd, path), w.x.Link(ino, cwd, path), want, before)
}

func (w *world) unlink(cwd int, path string) api.Errno {
	w.t.Helper()
	before := w.r.Image()
	want := w.m.wantUnlink(cwd, path)
	return w.asked(fmt.Sprintf("Unlink(%d, %q)", cwd, path), w.x.Unlink(cwd, path), want, before)
}

func (w *world) trunc(ino int) api.Errno {
	w.t.Helper()
	before := w.r.Image()
	want := w.m.wantTrunc(ino)
	return w.asked(fmt.Sprintf("Trunc(%d)", ino), w.x.Trunc(ino), want, before)
}

func (w *world) hold(ino int) api.Errno {
	w.t.Helper()
	before := w.r.Image()
	want := w.m.wantHold(ino)
	return w.asked(fmt.Sprintf("Hold(%d)", ino), w.x.Hold(ino), want, before)
}

func (w *world) drop(ino int) api.Errno {
	w.t.Helper()
	before := w.r.Image()
	want := w.m.wantDrop(ino)
	return w.asked(fmt.Sprintf("Drop(%d)", ino), w.x.Drop(ino), want, before)
}

func (w *world) write(ino, off int, b []byte) int {
	w.t.Helper()
	before := w.r.Image()
	want := w.m.wantWrite(w.r.Count(), ino, off, b)
	what := fmt.Sprintf("Write(%d, %d, %d bytes)", ino, off, len(b))
	if got := w.x.Write(ino, off, b); got != want {
		w.t.Fatalf("%s = %d, want %d", what, got, want)
	}
	if want <= 0 && !reflect.DeepEqual(w.r.Image(), before) {
		w.t.Fatalf("%s = %d has changed the memory", what, want)
	}
	w.check(what)
	return want
}

func (w *world) read(ino, off, n int) []byte {
	w.t.Helper()
	want := w.m.wantRead(ino, off, n)
	got := w.x.Read(ino, off, n)
	if !bytes.Equal(got, want) || (got == nil) != (want == nil) {
		w.t.Fatalf("Read(%d, %d, %d) = %d bytes (nil: %v), want %d", ino, off, n, len(got), got == nil, len(want))
	}
	return want
}

// check holds everything that can be seen against what must be there.
func (w *world) check(what string) {
	w.t.Helper()
	seen := map[uint64]bool{}
	for pa, data := range w.others {
		seen[pa] = true
		if got, ok := w.r.Read(pa, page); !ok || !bytes.Equal(got, data) {
			w.t.Fatalf("%s: the frame %x that is not the tree's was turned", what, pa)
		}
	}
	held := len(w.others)
	for ino := -1; ino <= numbers+2; ino++ {
		held += w.checkInode(what, ino, seen)
	}
	if got := w.r.Frames() - w.r.Count(); got != held || len(seen) != held {
		w.t.Fatalf("%s: %d frames are held, %d are somebody's, want %d", what, got, len(seen), held)
	}
	if got, want := w.x.Left(), numbers-len(w.m.nodes); got != want {
		w.t.Fatalf("%s: %d inodes are left, want %d", what, got, want)
	}
	checkOneTree(w.t, what, w.x)
}

// checkInode tells how many blocks an inode must have.
func (w *world) checkInode(what string, ino int, seen map[uint64]bool) int {
	w.t.Helper()
	look, want := w.x.Look(ino), w.m.wantLook(ino)
	blocks := look.Blocks
	look.Blocks = nil
	if !reflect.DeepEqual(look, want) {
		w.t.Fatalf("%s: Look(%d) = %+v, want %+v", what, ino, look, want)
	}
	if got, want := w.x.Stat(ino), w.m.wantStat(ino); got != want {
		w.t.Fatalf("%s: Stat(%d) = %+v, want %+v", what, ino, got, want)
	}
	if got, want := w.x.List(ino), w.m.wantList(ino); !reflect.DeepEqual(got, want) {
		w.t.Fatalf("%s: List(%d) = %v, want %v", what, ino, got, want)
	}
	n := w.m.nodes[ino]
	if n == nil {
		if blocks != nil || w.x.Read(ino, 0, math.MaxInt) != nil {
			w.t.Fatalf("%s: bytes of inode %d, which is not there", what, ino)
		}
		return 0
	}
	w.checkBytes(what, ino, n.bytes(), blocks, seen)
	return n.blocks()
}

func (w *world) checkBytes(what string, ino int, want []byte, blocks []uint64, seen map[uint64]bool) {
	w.t.Helper()
	if got := w.x.Read(ino, 0, math.MaxInt); !bytes.Equal(got, want) || (got == nil) != (len(want) == 0) {
		w.t.Fatalf("%s: inode %d has %d bytes, want %d, or other ones", what, ino, len(got), len(want))
	}
	if n := w.m.nodes[ino].blocks(); len(blocks) != n || (blocks == nil) != (n == 0) {
		w.t.Fatalf("%s: inode %d has the blocks %x, want %d", what, ino, blocks, n)
	}
	for k, pa := range blocks {
		if seen[pa] || w.r.IsFree(pa) {
			w.t.Fatalf("%s: the frame %x of inode %d is another one's too, or free", what, pa, ino)
		}
		seen[pa] = true
		part := want[k*page : min((k+1)*page, len(want))]
		if got, ok := w.r.Read(pa, len(part)); !ok || !bytes.Equal(got, part) {
			w.t.Fatalf("%s: the block %d of inode %d has other bytes", what, k, ino)
		}
	}
}

// checkOneTree is P9.11, told by the tree's own looks alone.
func checkOneTree(t *testing.T, what string, x *tree.Tree) {
	t.Helper()
	links, reached := map[int]int{1: 1}, map[int]int{1: 1}
	for todo := []int{1}; len(todo) > 0; todo = todo[1:] {
		at, names := todo[0], map[string]int{}
		for k, e := range x.List(at) {
			names[e.Name]++
			switch {
			case x.Look(e.Ino).Ino == 0:
				t.Fatalf("%s: %q in %d names %d, which is not there", what, e.Name, at, e.Ino)
			case k == 0 && (e.Name != "." || e.Ino != at), k == 1 && e.Name != "..", k > 1 && isDots(e.Name), names[e.Name] > 1:
				t.Fatalf("%s: the entry %d of %d is %+v", what, k, at, e)
			case k == 1:
				links[e.Ino]++
			case k > 1:
				links[e.Ino]++
				reached[e.Ino]++
				if x.Look(e.Ino).Type == dir {
					checkDirectory(t, what, x, e.Ino, at, reached[e.Ino])
					todo = append(todo, e.Ino)
				}
			}
		}
	}
	links[1]-- // the root's own '..' is in no directory above it
	for ino := range numbers + 1 {
		look := x.Look(ino)
		if look.Ino != 0 && look.Links != links[ino] {
			t.Fatalf("%s: inode %d has %d links, counted are %d", what, ino, look.Links, links[ino])
		}
		if look.Links > 0 && reached[ino] == 0 || look.Ino != 0 && look.Links == 0 && look.Refs == 0 {
			t.Fatalf("%s: inode %d is reached %d times: %+v", what, ino, reached[ino], look)
		}
	}
}

func checkDirectory(t *testing.T, what string, x *tree.Tree, ino, up, times int) {
	t.Helper()
	if times > 1 || ino == 1 {
		t.Fatalf("%s: directory %d is reached twice", what, ino)
	}
	if all := x.List(ino); len(all) < 2 || all[0] != (api.Dirent{Ino: ino, Name: "."}) || all[1] != (api.Dirent{Ino: up, Name: ".."}) {
		t.Fatalf("%s: directory %d in %d has %v", what, ino, up, all)
	}
}

// filled gives n bytes that tell their places.
func filled(n int, with byte) []byte {
	b := make([]byte, n)
	for k := range b {
		b[k] = byte(k) ^ byte(k>>8)*3 ^ with
	}
	return b
}
