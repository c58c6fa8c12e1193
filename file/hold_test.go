package file_test

// P12.4.

import (
	"testing"

	"hartix/api"
)

func TestHoldAndDrop(t *testing.T) {
	for _, ino := range []int{root, fileF, terminal, odd, folder} {
		w := begin(t)
		f := w.opened(ino)
		for n := 2; n <= 4; n++ {
			w.want("Hold", w.hold(f), api.OK)
			w.want("Refs", w.s.Look(f).Refs, n)
			w.want("Refs of the inode", w.x.Look(ino).Refs, 1)
		}
		for n := 3; n >= 1; n-- {
			wake, errno := w.drop(f)
			w.want("Drop", errno, api.OK)
			w.want("wakes", wake, []api.Chan(nil))
			w.want("Refs", w.s.Look(f).Refs, n)
			w.want("Refs of the inode", w.x.Look(ino).Refs, 1)
		}
		_, errno := w.drop(f)
		w.want("the last Drop", errno, api.OK)
		w.want("Look", w.s.Look(f), api.FileLook{})
		w.want("Refs of the inode", w.x.Look(ino).Refs, 0)
		w.want("Hold of none", w.hold(f), api.ErrFileNone)
		_, errno = w.drop(f)
		w.want("Drop of none", errno, api.ErrFileNone)
	}
}

func TestHoldOfNone(t *testing.T) {
	w := begin(t)
	w.opened(fileF)
	w.piped()
	for _, f := range places(100) {
		if f >= 0 && f < 3 {
			continue
		}
		w.want("Hold of none", w.hold(f), api.ErrFileNone)
		_, errno := w.drop(f)
		w.want("Drop of none", errno, api.ErrFileNone)
	}
}

// The ends of a pipe, dropped in either order, each held more than once.
func TestDropOfEnds(t *testing.T) {
	for _, readerFirst := range []bool{true, false} {
		w := begin(t)
		w.piped()
		reader, writer := w.piped()
		w.hold(reader)
		w.hold(writer)
		w.hold(writer)
		for range 2 {
			wake, _ := w.drop(writer)
			w.want("wakes of one that is still held", wake, []api.Chan(nil))
		}
		wake, _ := w.drop(reader)
		w.want("wakes of one that is still held", wake, []api.Chan(nil))
		first, second, want := writer, reader, toRead(1)
		if readerFirst {
			first, second, want = reader, writer, toWrite(1)
		}
		wake, _ = w.drop(first)
		w.want("wakes of the first", wake, []api.Chan{want})
		look, ok := w.s.Pipes(1)
		w.want("the pipe", look, api.PipeLook{Num: 1, State: api.PipeState{Reader: !readerFirst, Writer: readerFirst}})
		w.want("whether it is there", ok, true)
		wake, errno := w.drop(second)
		w.want("wakes of the second", wake, []api.Chan(nil))
		w.want("Drop", errno, api.OK)
		_, ok = w.s.Pipes(1)
		w.want("whether it is there", ok, false)
		w.want("places", left(w), [2]int{98, 31})
	}
}

// Bytes stay in a pipe whose writer is gone; they are gone with the reader, and a new pipe of that number is empty.
func TestBytesAndEnds(t *testing.T) {
	w := begin(t)
	reader, writer := w.piped()
	w.write(writer, []byte("abc"))
	w.drop(writer)
	w.want("Read", w.read(reader, 2), done("ab", toWrite(0)))
	w.drop(reader)
	reader, writer = w.piped()
	look, _ := w.s.Pipes(0)
	w.want("the pipe", look, api.PipeLook{State: api.PipeState{Reader: true, Writer: true}})
	w.want("Read", w.read(reader, 9), api.FileGot{How: api.FileWait, Chan: toRead(0)})
	w.write(writer, []byte("de"))
	w.drop(reader)
	w.want("Write", w.write(writer, []byte("f")), badSent)
	look, _ = w.s.Pipes(0)
	w.want("the pipe", look, api.PipeLook{State: api.PipeState{Bytes: []byte("de"), Writes: 2, Writer: true}})
}

// An inode without a name is there as long as one open file has it, however often that is held.
func TestDropOfTheLast(t *testing.T) {
	w := begin(t)
	f, g := w.opened(fileF), w.opened(fileF)
	w.hold(f)
	w.write(f, w.fresh(5000))
	w.unlink("f")
	free := w.r[0].Count()
	w.drop(g)
	w.drop(f)
	w.want("frames", w.r[0].Count(), free)
	w.want("Read", len(w.read(f, 1).Data), 0)
	w.drop(f)
	w.want("frames", w.r[0].Count(), free+2)
	w.want("the inode", w.x.Look(fileF).Ino, 0)
}

// Others' holds are none of the table's business.
func TestOthersHold(t *testing.T) {
	w := begin(t)
	w.holdIno(fileF)
	w.holdIno(fileF)
	f := w.opened(fileF)
	w.want("Refs", w.x.Look(fileF).Refs, 3)
	w.drop(f)
	w.want("Refs", w.x.Look(fileF).Refs, 2)
}

// A place that is free again has nothing of what stood there.
func TestPlacesAreNew(t *testing.T) {
	w := begin(t)
	f := w.opened(fileF)
	w.write(f, w.fresh(9))
	w.drop(f)
	w.want("Off", w.s.Look(w.opened(fileF)).Off, 0)
	w.drop(f)
	w.piped()
	w.want("a reader's end", w.s.Look(0), api.FileLook{Kind: api.FileReader, Refs: 1, Readable: true})
	w.drop(1)
	w.want("an inode", w.s.Look(w.opened(root)), api.FileLook{Num: 1, Kind: api.FileIno, Refs: 1, Readable: true, Ino: root})
}
