package tree_test

// Rows of drawn calls, each held against what the chapter says (P9.11 to P9.14).

import (
	"math"
	"testing"

	"hartix/api"
)

func drawnName(s *scatter) string {
	return pick(s, "a", "b", "c", "d", "e", "a", "b", ".", "..", "fourteen bytes", "fourteen bytes more", "g", "h")
}

func drawnPath(s *scatter) string {
	path := pick(s, "", "", "/", "//")
	for range pick(s, 1, 1, 2, 2, 3) {
		path += drawnName(s) + pick(s, "/", "/", "//")
	}
	switch s.below(40) {
	case 0:
		return path + "\x00"
	case 1:
		return ""
	case 2:
		return drawnText(s, 200)
	}
	return path
}

// drawnIno gives the number of an inode that is there; seldom another one.
func (w *world) drawnIno(s *scatter) int {
	if s.below(12) == 0 {
		return pick(s, -1, 0, 199, 200, math.MaxInt, math.MinInt, s.below(200))
	}
	nameless := s.below(6) == 0
	from := s.below(12)
	for k := range 200 {
		ino := (from + k) % 200
		if n := w.m.nodes[ino]; n != nil && (!nameless || w.m.links(ino) == 0) {
			return ino
		}
	}
	return 1
}

func drawnType(s *scatter) int {
	if s.below(16) == 0 {
		return pick(s, 0, 4, -1, math.MaxInt)
	}
	return pick(s, dir, dir, file, file, device)
}

// name makes one drawn call that makes or takes away a name.
func (w *world) name(s *scatter) (string, api.Errno) {
	switch s.below(7) {
	case 0, 1, 2:
		_, errno := w.makeDevice(w.drawnIno(s), drawnPath(s), drawnType(s), int16(s.next()), int16(s.next()))
		return "Make", errno
	case 3, 4:
		return "Link", w.link(w.drawnIno(s), w.drawnIno(s), drawnPath(s))
	}
	return "Unlink", w.unlink(w.drawnIno(s), drawnPath(s))
}

// use makes one drawn call on an inode.
func (w *world) use(s *scatter) (string, api.Errno) {
	ino := w.drawnIno(s)
	switch s.below(6) {
	case 0, 1:
		return "Hold", w.hold(ino)
	case 2:
		return "Drop", w.drop(ino)
	case 3:
		return "Trunc", w.trunc(ino)
	}
	off := pick(s, 0, 0, 1, s.below(3*page), w.x.Look(ino).Size, w.x.Look(ino).Size+1, -1)
	b := filled(pick(s, 0, 1, s.below(100), s.below(3*page), page), byte(s.next()))
	switch n := w.write(ino, off, b); {
	case n < 0:
		return "Write", api.ErrArg
	case n < len(b):
		return "Write", api.ErrTreeRoom
	}
	w.read(ino, off-1, len(b)+s.below(3))
	return "Write", api.OK
}

// turn makes one drawn call that changes something, and tells how it ended.
func (w *world) turn(s *scatter) (string, api.Errno) {
	switch s.below(10) {
	case 0:
		w.leave(min(w.r.Count()+len(w.others)-1, pick(s, 0, 0, 1, 2, 3, s.below(12), s.below(12))))
		return "leave", api.OK
	case 1, 2, 3:
		return w.use(s)
	case 4:
		return w.makeNameless(s)
	}
	return w.name(s)
}

// makeNameless makes one that is held and has lost its name at once.
func (w *world) makeNameless(s *scatter) (string, api.Errno) {
	cwd, path := w.drawnIno(s), drawnPath(s)
	ino, errno := w.makeDevice(cwd, path, drawnType(s), 0, 0)
	if errno == api.OK {
		w.hold(ino)
		w.unlink(cwd, path)
	}
	return "Make", errno
}

type outcome struct {
	call  string
	errno api.Errno
}

func TestDrawnCalls(t *testing.T) {
	s := scatter(1)
	seen := map[outcome]int{}
	for range 60 {
		w := begin(t, pick(&s, 8, 12, 24, 40))
		for range 150 {
			call, errno := w.turn(&s)
			seen[outcome{call, errno}]++
			for range 4 {
				_, errno := w.find(w.drawnIno(&s), drawnPath(&s))
				seen[outcome{"Find", errno}]++
			}
		}
	}
	for _, o := range []outcome{
		{"Find", api.OK}, {"Find", api.ErrTreeIno}, {"Find", api.ErrTreePath}, {"Find", api.ErrTreeDir}, {"Find", api.ErrTreeNone},
		{"Make", api.OK}, {"Make", api.ErrTreeIno}, {"Make", api.ErrTreePath}, {"Make", api.ErrTreeName}, {"Make", api.ErrTreeNone}, {"Make", api.ErrTreeDir}, {"Make", api.ErrTreeType}, {"Make", api.ErrTreeGone}, {"Make", api.ErrTreeTaken}, {"Make", api.ErrTreeRoom},
		{"Link", api.OK}, {"Link", api.ErrTreeIno}, {"Link", api.ErrTreePath}, {"Link", api.ErrTreeName}, {"Link", api.ErrTreeNone}, {"Link", api.ErrTreeDir}, {"Link", api.ErrTreeTaken},
		{"Unlink", api.OK}, {"Unlink", api.ErrTreeIno}, {"Unlink", api.ErrTreePath}, {"Unlink", api.ErrTreeName}, {"Unlink", api.ErrTreeNone}, {"Unlink", api.ErrTreeDir}, {"Unlink", api.ErrTreeFull},
		{"Hold", api.OK}, {"Hold", api.ErrTreeIno}, {"Drop", api.OK}, {"Drop", api.ErrTreeIno}, {"Drop", api.ErrArg},
		{"Trunc", api.OK}, {"Trunc", api.ErrTreeIno}, {"Trunc", api.ErrTreeDir}, {"Write", api.OK}, {"Write", api.ErrArg}, {"Write", api.ErrTreeRoom},
	} {
		if seen[o] < 5 {
			t.Errorf("%s ended with %d %d times", o.call, o.errno, seen[o])
		}
	}
}

// The same calls on a tree whose directories are full of names, so that they grow from block to block.
func TestDrawnCallsInLongDirectories(t *testing.T) {
	s := scatter(2)
	seen := map[outcome]int{}
	for range 12 {
		w := begin(t, 24)
		f := w.made(1, "/f", file)
		for _, name := range []string{"/a/", "/b/", "/c/"} {
			w.made(1, name, dir)
			w.linkAll(f, name, manyNames(252+s.below(3)))
		}
		w.linkAll(f, "/", manyNames(248))
		for range 100 {
			call, errno := w.turn(&s)
			seen[outcome{call, errno}]++
			if s.below(2) == 0 {
				errno := w.link(f, 1, pick(&s, "/a/", "/b/", "c/", "/")+drawnName(&s))
				seen[outcome{"Link", errno}]++
			}
			if s.below(8) == 0 {
				w.unlink(1, pick(&s, "/a/", "/b/", "c/", "/")+pick(&s, manyNames(250)...))
			}
		}
	}
	for _, o := range []outcome{{"Make", api.OK}, {"Make", api.ErrTreeRoom}, {"Link", api.OK}, {"Link", api.ErrTreeRoom}} {
		if seen[o] < 3 {
			t.Errorf("%s ended with %d %d times", o.call, o.errno, seen[o])
		}
	}
}

// Two trees that were told the same answer the same (DOC.md, One answer), whatever else lies in their memories.
func TestOneAnswer(t *testing.T) {
	one, two := begin(t, 24), begin(t, 30)
	two.leave(two.r.Count() - 6)
	s, same := scatter(5), scatter(5)
	for range 200 {
		call, errno := one.name(&s)
		other, otherErrno := two.name(&same)
		if call != other || errno != otherErrno {
			t.Fatalf("%s = %d, %s = %d", call, errno, other, otherErrno)
		}
	}
}
