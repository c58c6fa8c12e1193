package file_test

// P12.7, by hand. (Every check of a world looks at everything.)

import (
	"testing"

	"hartix/api"
	"hartix/tree"
)

func TestStat(t *testing.T) {
	w := begin(t)
	for _, c := range []struct {
		ino  int
		want api.Stat
	}{
		{root, api.Stat{Dev: 1, Ino: root, Type: api.TypeDir, Nlink: 2, Size: 176}},
		{fileF, api.Stat{Dev: 1, Ino: fileF, Type: api.TypeFile, Nlink: 1}},
		{terminal, api.Stat{Dev: 1, Ino: terminal, Type: api.TypeDev, Nlink: 1}},
		{odd, api.Stat{Dev: 1, Ino: odd, Type: api.TypeDev, Nlink: 1}},
		{folder, api.Stat{Dev: 1, Ino: folder, Type: api.TypeDir, Nlink: 1, Size: 32}},
	} {
		readable, _ := w.open(c.ino, true, false)
		neither, _ := w.open(c.ino, false, false)
		for _, f := range []int{readable, neither} {
			got, errno := w.s.Stat(f)
			w.want("Stat", got, c.want)
			w.want("Stat", errno, api.OK)
		}
	}
	reader, writer := w.piped()
	for _, f := range []int{reader, writer} {
		got, errno := w.s.Stat(f)
		w.want("Stat of a pipe's end", got, api.Stat{})
		w.want("Stat of a pipe's end", errno, api.ErrFileKind)
	}
}

// Stat tells the inode as it is now.
func TestStatNow(t *testing.T) {
	w := begin(t)
	f := w.opened(fileF)
	w.write(f, w.fresh(5000))
	w.on("Link", func(x *tree.Tree) any { return x.Link(fileF, root, "again") })
	got, _ := w.s.Stat(f)
	w.want("Stat", got, api.Stat{Dev: 1, Ino: fileF, Type: api.TypeFile, Nlink: 2, Size: 5000})
	w.unlink("again")
	w.unlink("f")
	got, _ = w.s.Stat(f)
	w.want("Stat", got, api.Stat{Dev: 1, Ino: fileF, Type: api.TypeFile, Nlink: 0, Size: 5000})
}

func TestLooksByHand(t *testing.T) {
	w := begin(t)
	w.piped()
	reader, writer := w.piped()
	f := w.opened(fileG)
	w.hold(f)
	w.hold(writer)
	w.write(f, w.fresh(30))
	w.write(writer, []byte("hello"))
	w.read(reader, 2)
	w.want("the file", w.s.Look(f), api.FileLook{Num: 4, Kind: api.FileIno, Refs: 2, Readable: true, Writable: true, Ino: fileG, Off: 30})
	w.want("the reader's end", w.s.Look(reader), api.FileLook{Num: 2, Kind: api.FileReader, Refs: 1, Readable: true, Pipe: 1})
	w.want("the writer's end", w.s.Look(writer), api.FileLook{Num: 3, Kind: api.FileWriter, Refs: 2, Writable: true, Pipe: 1})
	look, ok := w.s.Pipes(1)
	w.want("the pipe", look, api.PipeLook{Num: 1, State: api.PipeState{Bytes: []byte("llo"), Reads: 2, Writes: 5, Reader: true, Writer: true}})
	w.want("the pipe", ok, true)
	w.want("Left", left(w), [2]int{95, 30})
}

func TestLooksOfNone(t *testing.T) {
	w := begin(t)
	w.opened(fileF)
	w.piped()
	for _, n := range places(100) {
		if n < 0 || n > 2 {
			w.want("Look", w.s.Look(n), api.FileLook{})
			stat, errno := w.s.Stat(n)
			w.want("Stat", stat, api.Stat{})
			w.want("Stat", errno, api.ErrFileNone)
		}
		if n != 0 {
			look, ok := w.s.Pipes(n)
			w.want("Pipes", look, api.PipeLook{})
			w.want("Pipes", ok, false)
		}
	}
}
