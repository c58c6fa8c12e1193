package file_test

// P12.5. (Every read of a world asks with Peek first.)

import (
	"strings"
	"testing"

	"hartix/api"
	"hartix/tree"
)

// Reading of what is not open, or not to be read, or of fewer than no bytes.
func TestReadBad(t *testing.T) {
	w := begin(t)
	w.on("tree.Write", func(x *tree.Tree) any { return x.Write(fileF, 0, []byte("bytes")) })
	for _, ino := range []int{root, fileF, terminal, odd, folder} {
		w.open(ino, false, false)
	}
	for _, ino := range []int{fileF, terminal, odd} {
		w.open(ino, false, true)
	}
	_, writer := w.piped()
	w.write(writer, []byte("in"))
	w.keys("line\n")
	for _, n := range numbers() {
		for _, f := range places(100) {
			if f != writer-1 || n < 0 {
				w.want("Read", w.s.Read(f, n), badGot)
				w.want("Peek", w.s.Peek(f, n), badGot)
			}
		}
	}
	w.check("bad reads")
}

func TestReadFewerThanNone(t *testing.T) {
	w := begin(t)
	w.on("tree.Write", func(x *tree.Tree) any { return x.Write(fileF, 0, []byte("bytes")) })
	for ino := root; ino < nobody; ino++ {
		w.opened(ino)
	}
	_, writer := w.piped()
	w.write(writer, []byte("in"))
	w.keys("line\n")
	for f := range 14 {
		for _, n := range []int{-1, -2, -512, -1 << 32, -1 << 63} {
			w.want("Read", w.read(f, n), badGot)
		}
	}
}

func TestReadPipe(t *testing.T) {
	for _, in := range []int{0, 1, 2, 5, 511, 512} {
		for _, hasWriter := range []bool{true, false} {
			for _, n := range numbers() {
				w := begin(t)
				w.piped()
				reader, writer := w.piped()
				b := w.fresh(in)
				w.write(writer, b)
				if !hasWriter {
					w.drop(writer)
				}
				got := w.read(reader, n)
				switch {
				case n < 0:
					w.want("Read", got, badGot)
				case n == 0 || in == 0 && !hasWriter:
					w.want("Read", got, done(""))
				case in == 0:
					w.want("Read", got, api.FileGot{How: api.FileWait, Chan: toRead(1)})
				default:
					w.want("Read", got, done(string(b[:min(n, in)]), toWrite(1)))
				}
				w.read(reader, n)
			}
		}
	}
}

func TestReadFile(t *testing.T) {
	for _, size := range []int{0, 1, 2, 9, 4095, 4096, 4097, 9000} {
		for _, n := range numbers() {
			w := begin(t)
			b := w.fresh(size)
			w.on("tree.Write", func(x *tree.Tree) any { return x.Write(fileF, 0, b) })
			f := w.opened(fileF)
			if n < 0 {
				w.want("Read", w.read(f, n), badGot)
				w.want("Off", w.s.Look(f).Off, 0)
				continue
			}
			w.want("Read", w.read(f, n), done(string(b[:min(n, size)])))
			w.want("Off", w.s.Look(f).Off, min(n, size))
			rest := b[min(n, size):]
			w.want("Read", w.read(f, n), done(string(rest[:min(n, len(rest))])))
			w.want("Off", w.s.Look(f).Off, min(size, min(n, size)+min(n, size)))
		}
	}
}

// Reading byte by byte, and by other numbers, all of it comes, and then nothing.
func TestReadOn(t *testing.T) {
	for _, by := range []int{1, 7, 512, 4096, 5000} {
		w := begin(t)
		b := w.fresh(300 * by % 9001)
		w.on("tree.Write", func(x *tree.Tree) any { return x.Write(fileF, 0, b) })
		f := w.opened(fileF)
		for at := 0; at < len(b); at += by {
			w.want("Read", w.read(f, by), done(string(b[at:min(at+by, len(b))])))
		}
		w.want("Read at the end", w.read(f, by), done(""))
		w.want("Off", w.s.Look(f).Off, len(b))
	}
}

// A file that another one has cut: nothing is read from beyond its end, and the offset stays; when it grows again, reading goes on.
func TestReadBehindTheEnd(t *testing.T) {
	w := begin(t)
	f, g := w.opened(fileF), w.opened(fileF)
	w.write(f, w.fresh(100))
	w.trunc(fileF)
	for _, n := range []int{0, 1, 99} {
		w.want("Read", w.read(f, n), done(""))
	}
	w.want("Off", w.s.Look(f).Off, 100)
	w.want("Write", w.write(g, w.fresh(100)), sent(100))
	w.want("Read", w.read(f, 9), done(""))
	b := w.fresh(3)
	w.write(g, b)
	w.want("Read", w.read(f, 9), done(string(b)))
}

func TestReadDirectory(t *testing.T) {
	w := begin(t)
	for _, ino := range []int{root, folder} {
		all := w.x.Read(ino, 0, 1000)
		f := w.opened(ino)
		for at := 0; at < len(all); at += 16 {
			w.want("Read", w.read(f, 16), done(string(all[at:at+16])))
		}
		w.want("Read at the end", w.read(f, 16), done(""))
	}
	f := w.opened(folder)
	w.on("tree.Link", func(x *tree.Tree) any { return x.Link(fileF, folder, "name") })
	e, _ := tree.Unpack(w.read(f, 1000).Data[32:])
	w.want("the new entry", e, api.Dirent{Ino: fileF, Name: "name"})
}

func TestReadConsole(t *testing.T) {
	wait := api.FileGot{How: api.FileWait, Chan: api.Chan{Kind: api.ChanConsole}}
	for _, ino := range []int{terminal, terminal2} {
		w := begin(t)
		w.opened(fileF)
		f := w.opened(ino)
		w.want("nothing ready", w.read(f, 9), wait)
		w.want("nothing asked", w.read(f, 0), done(""))
		w.keys("li")
		w.want("a line that is not finished", w.read(f, 9), wait)
		w.keys("ne\nnext\n")
		w.want("nothing asked", w.read(f, 0), done(""))
		w.want("some bytes", w.read(f, 2), done("li"))
		w.want("the line's rest", w.read(f, 9), done("ne\n"))
		w.want("the next line", w.read(f, 9), done("next\n"))
		w.want("nothing ready", w.read(f, 1), wait)
		w.keys("a\x04\x04")
		w.want("ahead of the end", w.read(f, 9), done("a"))
		w.want("nothing asked of the end", w.read(f, 0), done(""))
		w.want("the end", w.read(f, 9), done(""))
		w.want("the end again", w.read(f, 1), done(""))
		w.want("nothing ready", w.read(f, 9), wait)
		w.want("Off", w.s.Look(f).Off, 0)
	}
}

func TestReadConsoleNumbers(t *testing.T) {
	for _, n := range numbers() {
		for _, typed := range []string{"", "a", "a\n", "\x04", "ab\ncd\n", strings.Repeat("z", 128)} {
			w := begin(t)
			f := w.opened(terminal)
			w.keys(typed)
			for range 3 {
				w.read(f, n)
			}
		}
	}
}

// Two open files of the console read from one row of lines.
func TestReadConsoleByTwo(t *testing.T) {
	w := begin(t)
	f, g := w.opened(terminal), w.opened(terminal2)
	w.keys("one\ntwo\n")
	w.want("the first", w.read(f, 9), done("one\n"))
	w.want("the second", w.read(g, 9), done("two\n"))
}

// A device that is not the console, whatever is asked and ready.
func TestReadOtherDevices(t *testing.T) {
	w := begin(t)
	w.keys("line\n")
	for _, ino := range []int{odd, major0, majorMinus, major257} {
		f := w.opened(ino)
		for _, n := range numbers() {
			w.want("Read", w.read(f, n), badGot)
		}
	}
}

// Peek, again and again, tells the same.
func TestPeekStays(t *testing.T) {
	w := begin(t)
	w.on("tree.Write", func(x *tree.Tree) any { return x.Write(fileF, 0, []byte("bytes of a file")) })
	_, writer := w.piped()
	w.write(writer, []byte("bytes of a pipe"))
	w.keys("bytes of a line\n")
	w.opened(fileF)
	w.opened(terminal)
	for _, n := range []int{0, 1, 8, 99} {
		for range 3 {
			for f, want := range map[int]string{0: "bytes of a pipe", 2: "bytes of a file", 3: "bytes of a line\n"} {
				w.want("Peek", string(w.s.Peek(f, n).Data), want[:min(n, len(want))])
			}
			w.check("Peek")
		}
	}
}
