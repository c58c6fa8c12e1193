package file_test

// P12.8 to P12.10: what holds whatever is done.

import (
	"math"
	"testing"

	"hartix/api"
	"hartix/tree"
)

// act is one call on a world.
type act func(*world)

func acts() []act {
	return []act{
		func(w *world) { w.open(fileF, true, true) },
		func(w *world) { w.open(root, true, false) },
		func(w *world) { w.open(terminal, true, true) },
		func(w *world) { w.pipe() },
		func(w *world) { w.hold(0) },
		func(w *world) { w.hold(1) },
		func(w *world) { w.drop(0) },
		func(w *world) { w.drop(1) },
		func(w *world) { w.read(0, 3) },
		func(w *world) { w.read(0, math.MaxInt) },
		func(w *world) { w.write(0, w.fresh(5)) },
		func(w *world) { w.write(1, w.fresh(5)) },
		func(w *world) { w.write(1, w.fresh(513)) },
		func(w *world) { w.keys("a\n") },
		func(w *world) { w.unlink("f") },
	}
}

// All rows of three calls, from a new table and from one with a pipe.
func TestAllShortRows(t *testing.T) {
	all := acts()
	n := len(all)
	for k := range n * n * n {
		for _, pipes := range []int{0, 1} {
			w := begin(t)
			for range pipes {
				w.pipe()
			}
			for _, a := range []int{k / (n * n), k / n % n, k % n} {
				all[a](w)
			}
		}
	}
}

// P12.9: through one open file reads and writes go on where the last one ended; each open file by itself.
func TestOffsets(t *testing.T) {
	w := begin(t)
	f, g, h := w.opened(fileF), w.opened(fileF), w.opened(fileG)
	w.write(f, []byte("0123456789"))
	w.want("the offset of the other", w.s.Look(g).Off, 0)
	w.want("Read", w.read(g, 4), done("0123"))
	w.want("Write", w.write(g, []byte("ab")), sent(2))
	w.want("Read", w.read(g, 2), done("67"))
	w.want("the offset of the first", w.s.Look(f).Off, 10)
	w.write(f, []byte("!"))
	w.want("Read", w.read(g, 9), done("89!"))
	w.want("Read of another inode", w.read(h, 9), done(""))
	w.hold(g)
	w.drop(g)
	w.want("the offset behind Hold and Drop", w.s.Look(g).Off, 11)
	w.drop(f)
	w.want("Read of a new one", w.read(w.opened(fileF), 99), done("0123ab6789!"))
}

// Reads of m and then of n are one of m + n, wherever they begin.
func TestReadsAreOne(t *testing.T) {
	for _, m := range []int{0, 1, 5, 4096, 5000, 9000} {
		for _, n := range []int{0, 1, 4096, 9000} {
			w := begin(t)
			b := w.fresh(8000)
			w.on("tree.Write", func(x *tree.Tree) any { return x.Write(fileF, 0, b) })
			f, g := w.opened(fileF), w.opened(fileF)
			two := string(w.read(f, m).Data) + string(w.read(f, n).Data)
			w.want("both", two, string(w.read(g, m+n).Data))
			w.want("their offsets", w.s.Look(f).Off, w.s.Look(g).Off)
		}
	}
}

// P12.10, by hand: who waits to read is woken by a Put, and by the writer's going; who waits to write by a Take, and by the reader's going.
func TestWhoSleepsIsWoken(t *testing.T) {
	for _, in := range []int{0, 512} {
		for _, goes := range []bool{true, false} {
			w := begin(t)
			w.piped()
			reader, writer := w.piped()
			w.write(writer, w.fresh(in))
			var wakes []api.Chan
			want := toRead(1)
			switch {
			case in == 0 && goes:
				w.want("Read", w.read(reader, 1).Chan, want)
				wakes, _ = w.drop(writer)
			case in == 0:
				w.want("Read", w.read(reader, 1).Chan, want)
				wakes = w.write(writer, w.fresh(1)).Wake
			case goes:
				want = toWrite(1)
				w.want("Write", w.write(writer, w.fresh(1)).Chan, want)
				wakes, _ = w.drop(reader)
			default:
				want = toWrite(1)
				w.want("Write", w.write(writer, w.fresh(1)).Chan, want)
				wakes = w.read(reader, 1).Wake
			}
			w.want("wakes", wakes, []api.Chan{want})
		}
	}
}

// Nothing wakes whose answer stays: of no bytes, of a Drop that leaves the end open, of other pipes.
func TestNobodyIsWokenInVain(t *testing.T) {
	w := begin(t)
	reader, writer := w.piped()
	w.want("Write of nothing", w.write(writer, nil).Wake, []api.Chan(nil))
	w.want("Read of nothing", w.read(reader, 0).Wake, []api.Chan(nil))
	w.want("Read that waits", w.read(reader, 1).Wake, []api.Chan(nil))
	w.write(writer, w.fresh(512))
	w.want("Write that waits", w.write(writer, w.fresh(1)), api.FileSent{How: api.FileWait, Chan: toWrite(0)})
	w.want("Read of nothing", w.read(reader, 0).Wake, []api.Chan(nil))
	w.hold(reader)
	wakes, _ := w.drop(reader)
	w.want("Drop", wakes, []api.Chan(nil))
	f := w.opened(fileF)
	w.want("Write to a file", w.write(f, w.fresh(9)).Wake, []api.Chan(nil))
	w.want("Read of a file", w.read(f, 9).Wake, []api.Chan(nil))
	wakes, _ = w.drop(f)
	w.want("Drop of a file", wakes, []api.Chan(nil))
}

// Behind a read at the end of a pipe whose writer is gone nothing waits any more (W8).
func TestEndOfPipe(t *testing.T) {
	w := begin(t)
	reader, writer := w.piped()
	w.write(writer, []byte("abc"))
	w.drop(writer)
	w.want("Read", w.read(reader, 2), done("ab", toWrite(0)))
	w.want("Read", w.read(reader, 2), done("c", toWrite(0)))
	for range 3 {
		w.want("the end", w.read(reader, 2), done(""))
	}
}
