package file_test

// P12.6.

import (
	"testing"

	"hartix/api"
	"hartix/tree"
)

func TestWriteBad(t *testing.T) {
	w := begin(t)
	for ino := root; ino < nobody; ino++ {
		w.open(ino, false, false)
		w.open(ino, true, false)
	}
	w.piped()
	writer := 21
	for _, b := range [][]byte{nil, {}, []byte("a"), make([]byte, 600)} {
		for _, f := range places(100) {
			if f != writer {
				w.want("Write", w.s.Write(f, b), badSent)
			}
		}
	}
	w.check("bad writes")
}

func TestWritePipe(t *testing.T) {
	for _, in := range []int{0, 1, 500, 511, 512} {
		for _, n := range []int{0, 1, 2, 12, 13, 511, 512, 513, 600, 5000} {
			w := begin(t)
			w.piped()
			_, writer := w.piped()
			w.write(writer, w.fresh(in))
			got := w.write(writer, w.fresh(n))
			fit := min(n, 512-in)
			want := sent(fit)
			if fit < n {
				want.How, want.Chan = api.FileWait, toWrite(1)
			}
			if fit > 0 {
				want.Wake = []api.Chan{toRead(1)}
			}
			w.want("Write", got, want)
		}
	}
}

// Nobody reads any more: bytes can't be written; none can.
func TestWriteBrokenPipe(t *testing.T) {
	for _, in := range []int{0, 1, 511, 512} {
		w := begin(t)
		reader, writer := w.piped()
		w.write(writer, w.fresh(in))
		w.drop(reader)
		w.want("Write", w.write(writer, w.fresh(1)), badSent)
		w.want("Write", w.write(writer, w.fresh(600)), badSent)
		w.want("Write of nothing", w.write(writer, nil), sent(0))
		w.want("Write of nothing", w.write(writer, []byte{}), sent(0))
	}
}

// The rest of a write that waits goes on behind each read, until all has gone through.
func TestWriteGoesOn(t *testing.T) {
	for _, by := range []int{1, 100, 512, 600} {
		w := begin(t)
		reader, writer := w.piped()
		all := w.fresh(1500)
		rest := all
		var got []byte
		for len(got) < len(all) {
			rest = rest[w.write(writer, rest).N:]
			got = append(got, w.read(reader, by).Data...)
		}
		w.want("all", got, all)
		w.want("then", w.read(reader, by), api.FileGot{How: api.FileWait, Chan: toRead(0)})
	}
}

func TestWriteFile(t *testing.T) {
	for _, n := range []int{0, 1, 9, 4095, 4096, 4097, 9000} {
		w := begin(t)
		f := w.opened(fileF)
		one, two := w.fresh(n), w.fresh(5)
		w.want("Write", w.write(f, one), sent(n))
		w.want("Off", w.s.Look(f).Off, n)
		w.want("Write", w.write(f, two), sent(5))
		w.want("Off", w.s.Look(f).Off, n+5)
		w.want("Read of the whole", w.read(w.opened(fileF), n+9), done(string(one)+string(two)))
	}
}

// Writing over what is there leaves what is behind it.
func TestWriteOver(t *testing.T) {
	w := begin(t)
	f, g := w.opened(fileF), w.opened(fileF)
	w.write(f, []byte("0123456789"))
	w.read(g, 3)
	w.want("Write", w.write(g, []byte("abc")), sent(3))
	w.want("Read", w.read(g, 2), done("67"))
	w.want("Write", w.write(g, []byte("xyz")), sent(3))
	w.want("the whole", string(w.x.Read(fileF, 0, 99)), "012abc67xyz")
}

// A file that another one has cut can't be written behind its end, not even nothing.
func TestWriteBehindTheEnd(t *testing.T) {
	w := begin(t)
	f := w.opened(fileF)
	w.write(f, w.fresh(100))
	w.trunc(fileF)
	for _, b := range [][]byte{nil, {}, []byte("a")} {
		w.want("Write", w.write(f, b), badSent)
	}
	w.want("Off", w.s.Look(f).Off, 100)
	w.write(w.opened(fileF), w.fresh(99))
	w.want("Write", w.write(f, []byte("a")), badSent)
	w.on("tree.Write", func(x *tree.Tree) any { return x.Write(fileF, 99, []byte("b")) })
	w.want("Write", w.write(f, []byte("a")), sent(1))
}

// For want of frames fewer bytes are written, and none.
func TestWriteWithoutFrames(t *testing.T) {
	for free := range 3 {
		w := beginWith(t, 20)
		f := w.opened(fileF)
		w.write(f, w.fresh(100))
		w.leave(free)
		room := 4096*(free+1) - 100
		w.want("Write", w.write(f, w.fresh(20000)), sent(room))
		w.want("Off", w.s.Look(f).Off, 4096*(free+1))
		w.want("Write", w.write(f, w.fresh(1)), sent(0))
		w.want("Write of nothing", w.write(f, nil), sent(0))
		w.want("Off", w.s.Look(f).Off, 4096*(free+1))
	}
}

// Beyond MaxBlocks nothing is written.
func TestWriteBeyondTheLastBlock(t *testing.T) {
	w := beginWith(t, 150)
	f := w.opened(fileF)
	w.want("Write", w.write(f, w.fresh(262000)), sent(262000))
	w.want("Write", w.write(f, w.fresh(1000)), sent(144))
	w.want("Off", w.s.Look(f).Off, 262144)
	w.want("Write", w.write(f, w.fresh(1)), sent(0))
	w.want("Write of nothing", w.write(f, nil), sent(0))
	w.want("Read", w.read(f, 1), done(""))
	w.want("Write of all at once", w.write(w.opened(fileG), w.fresh(300000)), sent(262144))
}

func TestWriteConsole(t *testing.T) {
	for _, ino := range []int{terminal, terminal2} {
		w := begin(t)
		f := w.opened(ino)
		for _, b := range []string{"", "a", "a\nb\x04\x00\x08\x15\xFF", string(w.fresh(9000))} {
			w.want("Write", w.write(f, []byte(b)), api.FileSent{How: api.FileDone, N: len(b), Out: newOrNil([]byte(b))})
		}
		w.want("Write of nil", w.write(f, nil), sent(0))
		w.want("Off", w.s.Look(f).Off, 0)
		w.want("what was written is not typed", w.c.Ready(), false)
	}
}

func TestWriteOtherDevices(t *testing.T) {
	w := begin(t)
	for _, ino := range []int{odd, major0, majorMinus, major257} {
		f := w.opened(ino)
		for _, b := range [][]byte{nil, {}, []byte("a"), make([]byte, 600)} {
			w.want("Write", w.write(f, b), badSent)
		}
	}
}
