package file_test

// The chapter's examples, without the second reading beside them.

import (
	"reflect"
	"testing"

	"hartix/api"
	"hartix/console"
	"hartix/file"
	"hartix/ram"
	"hartix/tree"
)

// little gives a table over a tree whose inode 2 is a directory and 3 a file.
func little(t *testing.T) *file.Files {
	t.Helper()
	r, _ := ram.New(16)
	x, _ := tree.New(r)
	x.Make(1, "/d", api.TypeDir, 0, 0)
	x.Make(1, "/f", api.TypeFile, 0, 0)
	return file.New(x, console.New())
}

func same(t *testing.T, what string, got, want any) {
	t.Helper()
	if !reflect.DeepEqual(got, want) {
		t.Errorf("%s: %+v, want %+v", what, got, want)
	}
}

func wantOpen(t *testing.T, s *file.Files, ino int, readable, writable bool, f int, errno api.Errno) {
	t.Helper()
	if got, e := s.Open(ino, readable, writable); got != f || e != errno {
		t.Errorf("Open(%d, %v, %v) = %d, %d, want %d, %d", ino, readable, writable, got, e, f, errno)
	}
}

func wantDrop(t *testing.T, s *file.Files, f int, wake []api.Chan, errno api.Errno) {
	t.Helper()
	if got, e := s.Drop(f); !reflect.DeepEqual(got, wake) || e != errno {
		t.Errorf("Drop(%d) = %#v, %d, want %#v, %d", f, got, e, wake, errno)
	}
}

func TestExample1(t *testing.T) {
	s := little(t)
	wantOpen(t, s, 3, true, true, 0, api.OK)
	wantOpen(t, s, 1, true, false, 1, api.OK)
	wantOpen(t, s, 1, true, true, 0, api.ErrFileIno)
	same(t, "Write", s.Write(0, []byte("hello")), sent(5))
	same(t, "Read", s.Read(0, 9), done(""))
	same(t, "Hold", s.Hold(0), api.OK)
	wantDrop(t, s, 0, nil, api.OK)
	wantDrop(t, s, 0, nil, api.OK)
	same(t, "Look", s.Look(0), api.FileLook{})
	same(t, "Read", s.Read(0, 1), badGot)
	wantOpen(t, s, 3, true, false, 0, api.OK)
	same(t, "Read", s.Read(0, 9), done("hello"))
}

func TestExample2(t *testing.T) {
	s := little(t)
	if r, w, e := s.Pipe(); r != 0 || w != 1 || e != api.OK {
		t.Fatal(r, w, e)
	}
	same(t, "Read", s.Read(0, 4), api.FileGot{How: api.FileWait, Chan: api.Chan{Kind: api.ChanRead, N: 0}})
	same(t, "Write", s.Write(1, []byte("ab")), sent(2, toRead(0)))
	same(t, "Read", s.Read(0, 4), done("ab", toWrite(0)))
	same(t, "Read", s.Read(1, 1), badGot)
	same(t, "Write", s.Write(0, []byte("a")), badSent)
	same(t, "Write", s.Write(0, nil), badSent)
	wantDrop(t, s, 1, []api.Chan{toRead(0)}, api.OK)
	same(t, "Read", s.Read(0, 1), done(""))
	wantDrop(t, s, 0, nil, api.OK)
	if look, ok := s.Pipes(0); ok || !reflect.DeepEqual(look, api.PipeLook{}) {
		t.Errorf("the pipe is not gone: %+v", look)
	}
}

func TestExample3(t *testing.T) {
	s := little(t)
	s.Pipe()
	all := make([]byte, 600)
	for k := range all {
		all[k] = byte(k)
	}
	same(t, "Write", s.Write(1, all), api.FileSent{How: api.FileWait, N: 512, Chan: toWrite(0), Wake: []api.Chan{toRead(0)}})
	wantDrop(t, s, 0, []api.Chan{toWrite(0)}, api.OK)
	same(t, "Write", s.Write(1, all[512:]), badSent)
}
