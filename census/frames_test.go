package census_test

// P17.1: whose each frame is.

import (
	"math"
	"reflect"
	"slices"
	"testing"

	"hartix/api"
	"hartix/census"
)

func TestNumbersOfFrames(t *testing.T) {
	v := sound()
	for _, n := range []int{0, -1, 4097, math.MinInt, math.MaxInt} {
		if got := census.Take(n, v.l, v.free); !reflect.DeepEqual(got, api.Census{Wrong: api.Wrong{Kind: api.WrongRam}}) {
			t.Errorf("%d frames: %+v", n, got)
		}
	}
	for _, n := range []int{1, 2, v.frames - 1, v.frames + 1, 4095, 4096} {
		v.frames = n
		if got := v.holdTake(t, "another number of frames"); len(got.Frames) != n {
			t.Errorf("%d frames: %d told", n, len(got.Frames))
		}
	}
}

// whole gives a memory all of which but the trampoline is free.
func whole(frames int) seen {
	v := seen{frames: frames, l: api.OsLook{Tramp: base, Free: frames - 1}}
	for n := frames - 1; n > 0; n-- {
		v.free = append(v.free, at(n))
	}
	return v
}

func TestAllFrames(t *testing.T) {
	for _, n := range []int{1, 2, 16, 4096} {
		whole(n).isWrong(t, "all are free", api.WrongNone, 0)
	}
}

func TestOwners(t *testing.T) {
	v := sound()
	got := v.holdTake(t, "sound")
	own := func(class, owner int) api.FrameOwn { return api.FrameOwn{Class: class, Owner: owner, Times: 1} }
	var want []api.FrameOwn
	add := func(n, class, owner int) {
		for range n {
			want = append(want, own(class, owner))
		}
	}
	add(1, api.FrameTramp, 0)
	for _, p := range []struct{ slot, nodes, pages int }{{0, 5, 1}, {2, 5, 3}, {5, 5, 1}, {63, 3, 0}} {
		add(p.nodes, api.FrameNode, p.slot)
		add(p.pages, api.FramePage, p.slot)
		add(1, api.FrameTrap, p.slot)
	}
	add(1, api.FrameBlock, 1)
	add(1, api.FrameBlock, 2)
	add(2, api.FrameBlock, 3)
	add(1, api.FrameBlock, 199)
	add(3, api.FrameFree, 0)
	if !slices.Equal(got.Frames, want) {
		t.Errorf("%v, want %v", got.Frames, want)
	}
}

// TestFirstNamesIt lets one more of each class name the same frame: the owner is the one ahead in the chapter's order.
func TestFirstNamesIt(t *testing.T) {
	turns := []struct {
		own  api.FrameOwn
		turn func(v *seen)
	}{
		{api.FrameOwn{Class: api.FrameTramp}, func(v *seen) { v.l.Tramp = at(60) }},
		{api.FrameOwn{Class: api.FrameFree}, func(v *seen) { v.free[1] = at(60) }},
		{api.FrameOwn{Class: api.FrameNode, Owner: 0}, func(v *seen) { v.l.Procs[0].Nodes[4] = at(60) }},
		{api.FrameOwn{Class: api.FramePage, Owner: 0}, func(v *seen) { v.l.Procs[0].Pages[0].Frame = at(60) }},
		{api.FrameOwn{Class: api.FrameTrap, Owner: 0}, func(v *seen) { v.l.Procs[0].Frame = at(60) }},
		{api.FrameOwn{Class: api.FrameNode, Owner: 2}, func(v *seen) { v.l.Procs[1].Nodes[0] = at(60) }},
		{api.FrameOwn{Class: api.FramePage, Owner: 2}, func(v *seen) { v.l.Procs[1].Pages[2].Frame = at(60) }},
		{api.FrameOwn{Class: api.FramePage, Owner: 5}, func(v *seen) { v.l.Procs[2].Pages[0].Frame = at(60) }},
		{api.FrameOwn{Class: api.FrameTrap, Owner: 63}, func(v *seen) { v.l.Procs[3].Frame = at(60) }},
		{api.FrameOwn{Class: api.FrameBlock, Owner: 1}, func(v *seen) { v.l.Inodes[0].Blocks[0] = at(60) }},
		{api.FrameOwn{Class: api.FrameBlock, Owner: 199}, func(v *seen) { v.l.Inodes[4].Blocks[0] = at(60) }},
	}
	for first := range turns {
		v := sound()
		v.frames = 61
		want := turns[first].own
		for more := first; more < len(turns); more++ {
			turns[more].turn(&v)
			want.Times++
			if got := v.holdTake(t, "many name it").Frames[60]; got != want {
				t.Errorf("named by %d to %d: %v, want %v", first, more, got, want)
			}
		}
	}
}

// TestOwnersOfNoSystem has owners whose numbers may not be.
func TestOwnersOfNoSystem(t *testing.T) {
	v := sound()
	v.l.Procs[1].Slot, v.l.Inodes[2].Ino = -9, math.MaxInt
	got := v.holdTake(t, "other numbers")
	node, block := slices.Index(got.Frames, api.FrameOwn{Class: api.FrameNode, Owner: -9, Times: 1}), slices.Index(got.Frames, api.FrameOwn{Class: api.FrameBlock, Owner: math.MaxInt, Times: 1})
	if node != 8 || block != 30 {
		t.Errorf("frames %d, %d of %v", node, block, got.Frames)
	}
}

// TestRootIsNoName: of a process the nodes name frames, its root does not once more.
func TestRootIsNoName(t *testing.T) {
	v := sound()
	v.l.Procs[0].Root = 5
	v.isWrong(t, "another root", api.WrongNone, 0)
}
