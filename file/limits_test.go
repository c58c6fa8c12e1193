package file

// 2^31 - 1 references are set by hand: no row of calls of a test's time makes as many of each kind.

import (
	"testing"

	"hartix/api"
	"hartix/console"
	"hartix/ram"
	"hartix/tree"
)

func TestMostRefs(t *testing.T) {
	r, err := ram.New(8)
	if err != nil {
		t.Fatal(err)
	}
	x, _ := tree.New(r)
	s := New(x, console.New())
	s.Open(api.RootIno, true, false)
	s.Pipe()
	for f := range 3 {
		s.opened.get(f).Refs = 1<<31 - 2
		for k, want := range []api.Errno{api.OK, api.ErrFileRefs, api.ErrFileRefs} {
			if errno := s.Hold(f); errno != want || s.Look(f).Refs != 1<<31-1 {
				t.Errorf("%d: Hold %d = %d, %d references", f, k, errno, s.Look(f).Refs)
			}
		}
		if wake, errno := s.Drop(f); wake != nil || errno != api.OK || s.Look(f).Refs != 1<<31-2 {
			t.Errorf("%d: Drop = %v, %d, %d references", f, wake, errno, s.Look(f).Refs)
		}
		if errno := s.Hold(f); errno != api.OK {
			t.Errorf("%d: Hold = %d", f, errno)
		}
	}
}
