package exec_test

// A memory with the spaces that Load gave, each beside what the chapter says that it must be: behind each call everything that can be seen is held against each other.

import (
	"bytes"
	"reflect"
	"slices"
	"testing"

	"hartix/api"
	"hartix/exec"
	"hartix/ram"
	"hartix/space"
	"hartix/sv39"
)

// loaded is a space, what it must be, and the frames that it was given.
type loaded struct {
	s                *space.Space
	m                *plain
	trapframe, tramp uint64
}

type world struct {
	t      *testing.T
	r      *ram.Ram
	others map[uint64][]byte // the held frames that are no space's, and their bytes
	all    []*loaded
}

func newWorld(t *testing.T, frames int) *world {
	t.Helper()
	r, err := ram.New(frames)
	if err != nil {
		t.Fatal(err)
	}
	w := &world{t: t, r: r, others: map[uint64][]byte{}}
	w.others[first], _ = r.Raw(first)
	return w
}

// frame takes a frame that becomes no space's.
func (w *world) frame() uint64 {
	w.t.Helper()
	pa, ok := w.r.Alloc()
	if !ok {
		w.t.Fatal("no frame is free")
	}
	w.others[pa] = bytes.Repeat([]byte{byte(pa >> 12), 0xC3}, page/2)
	w.r.Write(pa, w.others[pa])
	return pa
}

// leave takes frames until so many are free.
func (w *world) leave(free int) {
	w.t.Helper()
	for w.r.Count() > free {
		w.frame()
	}
	if w.r.Count() != free {
		w.t.Fatalf("%d frames are free, not %d", w.r.Count(), free)
	}
}

// load makes the call, and holds all of its outcome against the chapter; a refusal has changed nothing at all.
func (w *world) load(file []byte, args []string, trapframe, tramp uint64) (*loaded, api.Errno) {
	w.t.Helper()
	demand, _ := checkDemand(w.t, file, args)
	before, free := w.r.Image(), w.r.Count()
	m, want := wantLoad(w.r, file, args, trapframe, tramp)
	s, start, got := exec.Load(w.r, file, args, trapframe, tramp)
	if got != want {
		w.t.Fatalf("Load = %d, want %d", got, want)
	}
	if want != api.OK {
		if s != nil || start != (api.Start{}) || !reflect.DeepEqual(w.r.Image(), before) {
			w.t.Fatalf("the refusal %d: %v, %+v, or the memory has changed", got, s, start)
		}
		return nil, want
	}
	if start != m.start || w.r.Count() != free-demand {
		w.t.Fatalf("Load: %+v, %d frames are free, want %+v, %d", start, w.r.Count(), m.start, free-demand)
	}
	l := &loaded{s, m, trapframe, tramp}
	w.all = append(w.all, l)
	w.check("Load")
	return l, api.OK
}

// begin loads what must not be refused, with a trapframe of its own.
func (w *world) begin(file []byte, args ...string) *loaded {
	w.t.Helper()
	l, errno := w.load(file, args, w.frame(), first)
	if errno != api.OK {
		w.t.Fatalf("Load = %d", errno)
	}
	return l
}

// free gives a space back: as many frames as Demand told (P14.4).
func (w *world) free(l *loaded) {
	w.t.Helper()
	free := w.r.Count()
	w.all = slices.DeleteFunc(w.all, func(other *loaded) bool { return other == l })
	if errno := l.s.Free(); errno != api.OK || w.r.Count() != free+l.m.demand() {
		w.t.Fatalf("Free = %d, %d frames are free, want %d", errno, w.r.Count(), free+l.m.demand())
	}
	w.check("Free")
}

// checkDemand holds Demand against the chapter.
func checkDemand(t *testing.T, file []byte, args []string) (int, api.Errno) {
	t.Helper()
	want, wantErrno := wantDemand(file, args)
	got, errno := exec.Demand(file, args)
	if got != want || errno != wantErrno {
		t.Fatalf("Demand of %d bytes and %d arguments = %d, %d, want %d, %d", len(file), len(args), got, errno, want, wantErrno)
	}
	return got, errno
}

// check holds everything that can be seen against what must be there.
func (w *world) check(what string) {
	w.t.Helper()
	seen := map[uint64]bool{}
	for pa, data := range w.others {
		seen[pa] = true
		if got, ok := w.r.Read(pa, page); !ok || !bytes.Equal(got, data) {
			w.t.Fatalf("%s: the frame %x that is no space's was turned", what, pa)
		}
	}
	held := len(w.others)
	for _, l := range w.all {
		w.checkFrames(what, l, seen)
		w.checkPages(what, l)
		held += l.m.demand()
	}
	if got := w.r.Frames() - w.r.Count(); got != held || len(seen) != held {
		w.t.Fatalf("%s: %d frames are held, %d are somebody's, want %d", what, got, len(seen), held)
	}
}

// checkFrames holds a space's frames against their number, and against all that were seen ahead of them.
func (w *world) checkFrames(what string, l *loaded, seen map[uint64]bool) {
	w.t.Helper()
	nodes, pages := l.s.Look()
	if len(nodes) != nodesOf(l.m.pages()) || len(pages) != l.m.pages() {
		w.t.Fatalf("%s: %d nodes, %d pages, want %d, %d", what, len(nodes), len(pages), nodesOf(l.m.pages()), l.m.pages())
	}
	for _, look := range pages {
		nodes = append(nodes, look.Frame)
	}
	for _, pa := range nodes {
		if _, isFrame := w.r.Raw(pa); !isFrame || w.r.IsFree(pa) || seen[pa] {
			w.t.Fatalf("%s: the frame %x is another one's too, or not held", what, pa)
		}
		seen[pa] = true
	}
}

// checkPages holds the pages, their rights and their bytes against the chapter, and the two highest ones.
func (w *world) checkPages(what string, l *loaded) {
	w.t.Helper()
	if l.s.Size() != l.m.size() || l.s.Pages() != l.m.pages() {
		w.t.Fatalf("%s: size %x, %d pages, want %x, %d", what, l.s.Size(), l.s.Pages(), l.m.size(), l.m.pages())
	}
	_, pages := l.s.Look()
	for k, look := range pages {
		number := uint64(k)
		rights := l.m.rights(number)
		if look.Page != number || look.Perm != rights {
			w.t.Fatalf("%s: page %d is told as %+v, want the rights %b", what, k, look, rights)
		}
		if data, ok := w.r.Read(look.Frame, page); !ok || !bytes.Equal(data, l.m.bytesOf(number)) {
			w.t.Fatalf("%s: the bytes of page %d are other ones", what, k)
		}
		w.checkReach(what, l, number, look.Frame, rights)
	}
	w.checkLeaf(what, l, 1<<38-page, l.tramp, mayRead|mayFetch|accessed)
	w.checkLeaf(what, l, 1<<38-2*page, l.trapframe, mayRead|mayWrite|accessed|dirty)
	leaves := 0
	for range sv39.Leaves(w.r, l.s.Root()) {
		leaves++
	}
	if leaves != l.m.pages()+2 {
		w.t.Fatalf("%s: %d pages in the table, want %d and two", what, leaves, l.m.pages())
	}
}

// checkReach tells that the user can read, write and fetch just where the rights say (P14.4).
func (w *world) checkReach(what string, l *loaded, number, frame, rights uint64) {
	w.t.Helper()
	w.checkLeaf(what, l, number*page, frame, rights|accessed|dirty)
	for access, right := range map[api.Access]uint64{api.Load: mayRead, api.Store: mayWrite, api.Fetch: mayFetch} {
		may := rights&isUsers != 0 && rights&right != 0
		for _, at := range []uint64{0, page - 1} {
			pa, ok := sv39.Translate(w.r, l.s.Root(), number*page+at, access)
			if ok != may || may && pa != frame+at {
				w.t.Fatalf("%s: page %d for %d: %x, %v, want %v", what, number, access, pa, ok, may)
			}
		}
	}
}

func (w *world) checkLeaf(what string, l *loaded, va, frame, bits uint64) {
	w.t.Helper()
	pte, level, ok := sv39.Entry(w.r, l.s.Root(), va)
	if want := frame/page*1024 + bits + valid; pte != want || level != 0 || !ok {
		w.t.Fatalf("%s: at %x stands %x, %d, %v, want %x", what, va, pte, level, ok, want)
	}
}
