package file_test

// Of a table whose inodes somebody else has let go, or into whose tree's frames somebody has written, nothing is promised but that its calls end (and so that they do not panic).

import (
	"math"
	"testing"

	"hartix/api"
	"hartix/console"
	"hartix/file"
)

// exercise makes every call on a table.
func exercise(s *file.Files) {
	for _, f := range []int{-1, 0, 1, 2, 3, 4, 5, 6, 99, 100} {
		s.Look(f)
		s.Stat(f)
		s.Hold(f)
		s.Peek(f, math.MaxInt)
		s.Read(f, 1)
		s.Write(f, make([]byte, 5000))
		s.Read(f, math.MaxInt)
		s.Write(f, nil)
		s.Drop(f)
	}
	s.Open(fileF, true, true)
	s.Pipe()
	s.Left()
}

func TestInodesThatOthersLetGo(t *testing.T) {
	_, x := plant(t, 40)
	s := file.New(x, console.New())
	for _, ino := range []int{fileF, terminal, folder, odd, fileG, root} {
		s.Open(ino, true, ino != root && ino != folder)
	}
	s.Write(0, make([]byte, 5000))
	for _, path := range []string{"f", "con", "d", "odd"} {
		x.Unlink(root, path)
	}
	for ino := range nobody {
		x.Drop(ino)
	}
	exercise(s)
	for _, path := range []string{"f", "con", "d", "odd"} {
		x.Make(root, path, api.TypeDir, 0, 0)
	}
	exercise(s)
	for f := range 100 {
		s.Drop(f)
	}
	exercise(s)
}

func TestFramesThatOthersWroteInto(t *testing.T) {
	r, x := plant(t, 40)
	s := file.New(x, console.New())
	s.Open(fileF, true, true)
	s.Open(root, true, false)
	s.Write(0, make([]byte, 5000))
	for ino := range nobody {
		for _, pa := range x.Look(ino).Blocks {
			r.Store(pa, 8, 0xFFFFFFFFFFFFFFFF)
			r.Free(pa)
		}
	}
	exercise(s)
	exercise(s)
}
