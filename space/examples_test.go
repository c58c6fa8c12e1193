package space_test

// The chapter's examples, one after another, word by word.

import (
	"bytes"
	"testing"

	"hartix/api"
	"hartix/ram"
	"hartix/space"
)

func code(t *testing.T, what string, got, want api.Errno) {
	t.Helper()
	if got != want {
		t.Errorf("%s = %d, want %d", what, got, want)
	}
}

func truth(t *testing.T, what string, got, want bool) {
	t.Helper()
	if got != want {
		t.Errorf("%s = %v, want %v", what, got, want)
	}
}

func countIs(t *testing.T, what string, r *ram.Ram, want int) {
	t.Helper()
	if r.Count() != want {
		t.Errorf("%s: %d frames are free, want %d", what, r.Count(), want)
	}
}

// stage is where an example begins: a memory of 32 frames, a trapframe, and a space.
func stage(t *testing.T) (*ram.Ram, uint64, *space.Space) {
	t.Helper()
	r, err := ram.New(32)
	if err != nil {
		t.Fatal(err)
	}
	countIs(t, "at first", r, 31)
	f, _ := r.Alloc()
	countIs(t, "with a trapframe", r, 30)
	s, errno := space.New(r, f, 0x80000000)
	code(t, "New", errno, api.OK)
	return r, f, s
}

// second goes through example 2, third through 2 and 3, fourth through 2 to 4: each begins where the one ahead of it ended.
func second(t *testing.T) (*ram.Ram, *space.Space) {
	t.Helper()
	r, _, s := stage(t)
	code(t, "Grow(1)", s.Grow(1, api.PteR|api.PteW), api.OK)
	return r, s
}

func third(t *testing.T) (*ram.Ram, *space.Space) {
	t.Helper()
	r, s := second(t)
	code(t, "Grow(300)", s.Grow(300, api.PteR|api.PteW), api.OK)
	truth(t, `Out(100, "hi" 0)`, s.Out(100, []byte("hi\x00")), true)
	truth(t, `Out(4094, "ab")`, s.Out(4094, []byte("ab")), true)
	code(t, "Shrink(50)", s.Shrink(50), api.OK)
	code(t, "Grow(200)", s.Grow(200, api.PteR|api.PteW), api.OK)
	return r, s
}

func fourth(t *testing.T) (*ram.Ram, *space.Space) {
	t.Helper()
	r, s := third(t)
	code(t, "Grow(8193)", s.Grow(8193, api.PteR), api.OK)
	truth(t, "Poke(8192)", s.Poke(8192, []byte("x")), true)
	code(t, "Guard(1)", s.Guard(1), api.OK)
	return r, s
}

func TestExample1(t *testing.T) {
	r, f, _ := stage(t)
	countIs(t, "New", r, 27)
	for _, c := range [][2]int{{0, 3}, {1, 5}, {512, 5}, {513, 6}, {-1, 0}, {4097, 0}} {
		if got := space.Nodes(c[0]); got != c[1] {
			t.Errorf("Nodes(%d) = %d, want %d", c[0], got, c[1])
		}
	}
	_, errno := space.New(r, f, f)
	code(t, "New(r, F, F)", errno, api.ErrSpaceFrame)
	_, errno = space.New(r, f+8, 0x80000000)
	code(t, "New(r, F + 8, T)", errno, api.ErrSpaceFrame)
}

func TestExample2(t *testing.T) {
	r, s := second(t)
	if s.Size() != 1 || s.Pages() != 1 {
		t.Errorf("size %d, %d pages", s.Size(), s.Pages())
	}
	countIs(t, "a page, two nodes", r, 24)
	b, ok := s.In(0, 4096)
	if !ok || !bytes.Equal(b, make([]byte, 4096)) {
		t.Errorf("In(0, 4096) = % x, %v", b, ok)
	}
	_, ok = s.In(0, 4097)
	truth(t, "In(0, 4097)", ok, false)
	code(t, "Grow(0)", s.Grow(0, api.PteR), api.ErrSpaceSize)
	code(t, "Grow(2)", s.Grow(2, api.PteW), api.ErrSpacePerm)
	code(t, "Grow(UserTop + 1)", s.Grow(api.UserTop+1, api.PteR), api.ErrSpaceSize)
	code(t, "Grow(1048576)", s.Grow(1048576, api.PteR), api.ErrSpaceRoom)
	countIs(t, "refused", r, 24)
}

func TestExample3(t *testing.T) {
	r, s := second(t)
	code(t, "Grow(300)", s.Grow(300, api.PteR|api.PteW), api.OK)
	countIs(t, "no frame is taken", r, 24)
	truth(t, "Out(4094)", s.Out(4094, []byte("ab")), true)
	truth(t, "Out(4095)", s.Out(4095, []byte("ab")), false)
	if b, ok := s.In(4094, 2); string(b) != "ab" || !ok {
		t.Errorf("In(4094, 2) = %q, %v", b, ok)
	}
	truth(t, "Out(100)", s.Out(100, []byte("hi\x00")), true)
	checkStr(t, s, 100, 3, "hi", true)
	checkStr(t, s, 100, 2, "", false)
	code(t, "Shrink(50)", s.Shrink(50), api.OK)
	checkStr(t, s, 100, 3, "hi", true)
	code(t, "Grow(50)", s.Grow(50, api.PteR), api.OK)
	checkStr(t, s, 100, 3, "hi", true)
	code(t, "Grow(200)", s.Grow(200, api.PteR|api.PteW), api.OK)
	checkStr(t, s, 100, 1, "", true)
	if b, ok := s.In(50, 4046); !bytes.Equal(b, make([]byte, 4046)) || !ok {
		t.Errorf("In(50, 4046) = % x, %v", b, ok)
	}
	if b, ok := s.In(4094, 2); !bytes.Equal(b, []byte{0, 0}) || !ok {
		t.Errorf("In(4094, 2) = % x, %v", b, ok)
	}
}

func checkStr(t *testing.T, s *space.Space, va uint64, most int, want string, wantOk bool) {
	t.Helper()
	if got, ok := s.Str(va, most); got != want || ok != wantOk {
		t.Errorf("Str(%d, %d) = %q, %v, want %q, %v", va, most, got, ok, want, wantOk)
	}
}

func TestExample4(t *testing.T) {
	_, s := third(t)
	code(t, "Grow(8193)", s.Grow(8193, api.PteR), api.OK)
	truth(t, "CanOut(4096, 1)", s.CanOut(4096, 1), false)
	truth(t, "Poke(8192)", s.Poke(8192, []byte("x")), true)
	truth(t, "Poke(8193)", s.Poke(8193, []byte("x")), false)
	code(t, "Guard(1)", s.Guard(1), api.OK)
	_, ok := s.In(4096, 1)
	truth(t, "In(4096, 1)", ok, false)
	code(t, "Guard(3)", s.Guard(3), api.ErrSpacePage)
	nodes, pages := s.Look()
	if len(nodes) != 5 || len(pages) != 3 {
		t.Fatalf("Look = %x, %+v", nodes, pages)
	}
	for k, want := range []uint64{api.PteR | api.PteW | api.PteU, api.PteR, api.PteR | api.PteU} {
		if pages[k].Page != uint64(k) || pages[k].Perm != want {
			t.Errorf("page %d: %+v", k, pages[k])
		}
	}
}

func TestExample5(t *testing.T) {
	r, s := fourth(t)
	g, _ := r.Alloc()
	was := r.Count()
	c, errno := s.Copy(g)
	code(t, "Copy", errno, api.OK)
	countIs(t, "three pages and five nodes less", r, was-8)
	truth(t, "Out of the copy", c.Out(0, []byte("z")), true)
	if b, ok := s.In(0, 1); !bytes.Equal(b, []byte{0}) || !ok {
		t.Errorf("the first one's byte 0: % x, %v", b, ok)
	}
	code(t, "Free of the copy", c.Free(), api.OK)
	code(t, "Free of the first one", s.Free(), api.OK)
	countIs(t, "all but F, G", r, 29)
}
