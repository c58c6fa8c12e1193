package census_test

// P17.8 to P17.11.

import (
	"reflect"
	"slices"
	"testing"

	"hartix/api"
	"hartix/census"
)

// holdSums holds P17.9.
func (v seen) holdSums(t *testing.T) {
	t.Helper()
	c := census.Take(v.frames, v.l, v.free)
	times, names := 0, 0
	var classes [api.FrameBlock + 1]int
	for _, own := range c.Frames {
		times += own.Times
		classes[own.Class]++
	}
	for _, x := range claims(v.l, v.free) {
		if x.at >= base && x.at%4096 == 0 && x.at < at(v.frames) {
			names++
		}
	}
	if len(c.Frames) > 0 && times != names {
		t.Fatalf("%d times, %d names", times, names)
	}
	if c.Wrong.Kind != api.WrongNone {
		return
	}
	worth, blocks := 0, 0
	for _, p := range v.l.Procs {
		worth += census.Worth(p)
		if census.Worth(p) != 1+len(p.Pages)+census.Nodes(len(p.Pages)) {
			t.Fatalf("the worth of slot %d", p.Slot)
		}
	}
	for _, i := range v.l.Inodes {
		blocks += len(i.Blocks)
	}
	got := []int{classes[api.FrameLost], classes[api.FrameTramp], classes[api.FrameFree], classes[api.FrameNode] + classes[api.FramePage] + classes[api.FrameTrap], classes[api.FrameBlock]}
	if !slices.Equal(got, []int{0, 1, v.l.Free, worth, blocks}) || 1+v.l.Free+worth+blocks != v.frames {
		t.Fatalf("%v of %+v", got, v.l)
	}
}

// holdApart holds P17.11.
func (v seen) holdApart(t *testing.T) {
	t.Helper()
	c := census.Take(v.frames, v.l, v.free)
	if c.Wrong.Kind != api.WrongNone {
		return
	}
	for _, p := range v.l.Procs {
		read, write, run := census.Reach(v.l, p.Slot)
		for _, frame := range slices.Concat(read, write, run) {
			if own := c.Frames[(frame-base)/4096]; own != (api.FrameOwn{Class: api.FramePage, Owner: p.Slot, Times: 1}) {
				t.Fatalf("slot %d reaches %x, which is %v", p.Slot, frame, own)
			}
		}
	}
}

func TestSumsAndReach(t *testing.T) {
	s := scatter(4)
	sound().holdSums(t)
	sound().holdApart(t)
	for range 3000 {
		v := sound()
		v.disturb(&s)
		if s.below(4) == 0 {
			v.disturbFree(&s)
		}
		v.holdSums(t)
		v.holdApart(t)
	}
}

// moved gives the same system in other frames.
func (v seen) moved(s *scatter) seen {
	v = v.copied()
	to := make([]uint64, v.frames)
	for n := range to {
		m := s.below(n + 1)
		to[n], to[m] = to[m], at(n)
	}
	move := func(p *uint64) {
		if *p >= base && *p < at(v.frames) && *p%4096 == 0 {
			*p = to[(*p-base)/4096]
		}
	}
	for _, p := range partsOf(&v.l) {
		if framesOnly.MatchString(p.way) {
			frame := p.v.Uint()
			move(&frame)
			p.v.SetUint(frame)
		}
	}
	for i := range v.free {
		move(&v.free[i])
	}
	return v
}

// TestAlikeHaveTheSame is P17.10: what is alike has the same counts, and, where its frames are sound, the same is wrong.
func TestAlikeHaveTheSame(t *testing.T) {
	s := scatter(5)
	const anyFrames, soundFrames = 0, 1
	var asked [2]int
	for range 4000 {
		v := sound()
		for range s.below(3) {
			v.disturb(&s)
		}
		w := v.moved(&s)
		if !census.Alike(v.l, w.l) {
			t.Fatalf("not alike: %+v, %+v", v.l, w.l)
		}
		a, b := census.Take(v.frames, v.l, v.free), census.Take(w.frames, w.l, w.free)
		if !reflect.DeepEqual(a.Files, b.Files) || !reflect.DeepEqual(a.Inodes, b.Inodes) {
			t.Fatalf("other counts: %+v, %+v", a, b)
		}
		asked[anyFrames]++
		if isOfFrames(a.Wrong) || isOfFrames(b.Wrong) {
			continue
		}
		asked[soundFrames]++
		if a.Wrong != b.Wrong {
			t.Fatalf("%v and %v are wrong", a.Wrong, b.Wrong)
		}
	}
	if asked[soundFrames] < 1000 {
		t.Errorf("asked %v times", asked)
	}
}

// isOfFrames tells whether what is wrong is of P17.3's first three.
func isOfFrames(w api.Wrong) bool {
	return slices.Contains([]int{api.WrongPlace, api.WrongLost, api.WrongShared, api.WrongFree}, w.Kind)
}

// TestAlikeWithOtherMemories: each has its own number of frames, and its own free list.
func TestAlikeWithOtherMemories(t *testing.T) {
	v := sound()
	w := v.copied()
	w.frames, w.free[0] = 4096, at(77)
	a, b := v.holdTake(t, "one"), w.holdTake(t, "another")
	if !census.Alike(v.l, w.l) || !reflect.DeepEqual(a.Files, b.Files) || !reflect.DeepEqual(a.Inodes, b.Inodes) {
		t.Errorf("%+v, %+v", a, b)
	}
}
