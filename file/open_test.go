package file_test

// P12.2, P12.3.

import (
	"math"
	"testing"

	"hartix/api"
	"hartix/console"
	"hartix/file"
)

func TestOpen(t *testing.T) {
	for ino := range nobody {
		for ways := range 4 {
			w := begin(t)
			readable, writable := ways&1 > 0, ways&2 > 0
			f, errno := w.open(ino, readable, writable)
			if ino == 0 || writable && (ino == root || ino == folder) {
				w.want("a refusal", errno, api.ErrFileIno)
				continue
			}
			w.want("Open", errno, api.OK)
			w.want("Look", w.s.Look(f), api.FileLook{Num: 0, Kind: api.FileIno, Refs: 1, Readable: readable, Writable: writable, Ino: ino})
			w.want("Refs of the inode", w.x.Look(ino).Refs, 1)
		}
	}
}

func TestOpenOfNone(t *testing.T) {
	w := begin(t)
	for _, ino := range []int{math.MinInt, -1 << 32, -1, 0, nobody, 198, 199, 200, 257, 1<<32 + fileF, math.MaxInt} {
		for ways := range 4 {
			_, errno := w.open(ino, ways&1 > 0, ways&2 > 0)
			w.want("Open of none", errno, api.ErrFileIno)
		}
	}
}

// An inode without a name can be opened as long as somebody holds it.
func TestOpenWithoutAName(t *testing.T) {
	w := begin(t)
	f := w.opened(fileF)
	w.write(f, w.fresh(9))
	w.unlink("f")
	again := w.opened(fileF)
	w.drop(f)
	w.want("its bytes", len(w.read(again, 99).Data), 9)
	free := w.r[0].Count()
	w.drop(again)
	w.want("frames that it has given back", w.r[0].Count()-free, 1)
	_, errno := w.open(fileF, true, false)
	w.want("Open of one that is gone", errno, api.ErrFileIno)
}

// A directory that is gone can be opened to be read; there is nothing in it.
func TestOpenOfAGoneDirectory(t *testing.T) {
	w := begin(t)
	w.holdIno(folder)
	w.unlink("d")
	_, errno := w.open(folder, true, true)
	w.want("Open to write", errno, api.ErrFileIno)
	w.want("Read", w.read(w.opened(folder), 99), done(""))
}

// A new one is the free one with the lowest number.
func TestLowestPlaceFirst(t *testing.T) {
	w := begin(t)
	for want := range 100 {
		w.want("Open", w.opened(fileF), want)
	}
	for _, f := range []int{99, 50, 7, 0, 98, 51} {
		w.drop(f)
	}
	for _, want := range []int{0, 7, 50, 51, 98, 99} {
		w.want("Open", w.opened(fileG), want)
	}
}

// The reasons of Open in their order.
func TestOpenWhenFull(t *testing.T) {
	w := begin(t)
	for range 100 {
		w.opened(fileF)
	}
	for _, c := range []struct {
		ino      int
		writable bool
		want     api.Errno
	}{
		{fileF, true, api.ErrFileFull}, {root, false, api.ErrFileFull}, {odd, true, api.ErrFileFull},
		{root, true, api.ErrFileIno}, {folder, true, api.ErrFileIno}, {nobody, false, api.ErrFileIno}, {-1, true, api.ErrFileIno},
	} {
		_, errno := w.open(c.ino, true, c.writable)
		w.want("Open when all are open", errno, c.want)
	}
	w.want("holders", w.x.Look(fileF).Refs, 100)
	w.drop(42)
	w.want("Open", w.opened(root), 42)
}

func TestPipe(t *testing.T) {
	w := begin(t)
	for p := range 32 {
		reader, writer := w.piped()
		w.want("the reader's end", w.s.Look(reader), api.FileLook{Num: 2 * p, Kind: api.FileReader, Refs: 1, Readable: true, Pipe: p})
		w.want("the writer's end", w.s.Look(writer), api.FileLook{Num: 2*p + 1, Kind: api.FileWriter, Refs: 1, Writable: true, Pipe: p})
		look, ok := w.s.Pipes(p)
		w.want("the pipe", look, api.PipeLook{Num: p, State: api.PipeState{Reader: true, Writer: true}})
		w.want("whether it is there", ok, true)
	}
	_, _, errno := w.pipe()
	w.want("the 33rd", errno, api.ErrFilePipe)
	w.want("Open beside 32 pipes", w.opened(fileF), 64)
}

// The ends take the two lowest places, and the pipe the lowest number, wherever they are free.
func TestLowestPipeFirst(t *testing.T) {
	w := begin(t)
	for range 32 {
		w.piped()
	}
	for _, f := range []int{10, 11, 62, 63, 4, 5, 21} {
		w.drop(f)
	}
	w.opened(fileF)
	reader, writer := w.piped()
	w.want("the reader's end", w.s.Look(reader), api.FileLook{Num: 5, Kind: api.FileReader, Refs: 1, Readable: true, Pipe: 2})
	w.want("the writer's end", w.s.Look(writer), api.FileLook{Num: 10, Kind: api.FileWriter, Refs: 1, Writable: true, Pipe: 2})
	reader, writer = w.piped()
	w.want("the next", []int{reader, writer, w.s.Look(reader).Pipe}, []int{11, 21, 5})
	reader, writer = w.piped()
	w.want("the next", []int{reader, writer, w.s.Look(reader).Pipe}, []int{62, 63, 31})
	_, _, errno := w.pipe()
	w.want("a pipe more: one of the pipes has an end yet", errno, api.ErrFilePipe)
}

// The reasons of Pipe in their order.
func TestPipeWithoutPlaces(t *testing.T) {
	w := begin(t)
	for range 98 {
		w.opened(fileF)
	}
	w.piped()
	for _, free := range []int{0, 1} {
		_, _, errno := w.pipe()
		w.want("a pipe with too few places", errno, api.ErrFileFull)
		w.drop(free)
	}
	w.piped()
	for range 30 {
		for range 2 {
			w.drop(firstOf(w, api.FileIno))
		}
		w.piped()
	}
	w.want("pipes left", left(w), [2]int{0, 0})
}

func firstOf(w *world, kind int) int {
	for f := range 100 {
		if w.s.Look(f).Kind == kind {
			return f
		}
	}
	return -1
}

func left(w *world) [2]int {
	files, pipes := w.s.Left()
	return [2]int{files, pipes}
}

// With all pipes there the want of places is told, where both are wanting.
func TestPlacesAheadOfPipes(t *testing.T) {
	w := begin(t)
	for range 32 {
		w.piped()
	}
	for range 33 {
		w.opened(root)
	}
	for free, want := range map[int]api.Errno{3: api.ErrFilePipe, 2: api.ErrFilePipe, 1: api.ErrFileFull, 0: api.ErrFileFull} {
		for left(w)[0] > free {
			w.opened(root)
		}
		for left(w)[0] < free {
			w.drop(firstOf(w, api.FileIno))
		}
		_, _, errno := w.pipe()
		w.want("Pipe", errno, want)
	}
}

// tree.Hold refuses when an inode is held 2^31 - 1 times: told as ErrFileIno, behind the want of a place.
func TestOpenOfOneHeldTooOften(t *testing.T) {
	t.Parallel()
	_, x := plant(t, 20)
	s := file.New(x, console.New())
	for range 1<<31 - 2 {
		x.Hold(fileF)
	}
	wantOpen(t, s, fileF, true, true, 0, api.OK)
	wantOpen(t, s, fileF, true, true, 0, api.ErrFileIno)
	same(t, "holders", x.Look(fileF).Refs, 1<<31-1)
	same(t, "the next place", s.Look(1), api.FileLook{})
	for f := 1; f < 100; f++ {
		wantOpen(t, s, fileG, true, true, f, api.OK)
	}
	wantOpen(t, s, fileF, true, true, 0, api.ErrFileFull)
	wantDrop(t, s, 7, nil, api.OK)
	wantOpen(t, s, fileF, false, false, 0, api.ErrFileIno)
	wantDrop(t, s, 0, nil, api.OK)
	wantOpen(t, s, fileF, false, false, 0, api.OK)
}
