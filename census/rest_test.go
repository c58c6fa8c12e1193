package census_test

// P17.4, P17.5, P17.7.

import (
	"math"
	"reflect"
	"slices"
	"testing"

	"hartix/api"
	"hartix/census"
)

func TestNodes(t *testing.T) {
	for pages, want := range map[int]int{
		math.MinInt: 0, -1: 0, 0: 3, 1: 5, 511: 5, 512: 5, 513: 6, 1024: 6, 1025: 7, 4096: 12, 1 << 40: 4 + 1<<31,
		math.MaxInt - 512: 3 + 1<<54, math.MaxInt - 511: 3 + 1<<54, math.MaxInt - 510: 4 + 1<<54, math.MaxInt: 4 + 1<<54,
	} {
		if got := census.Nodes(pages); got != want {
			t.Errorf("Nodes(%d) = %d, want %d", pages, got, want)
		}
	}
	for pages := 1; pages < 3000; pages++ {
		step := 0
		if pages%512 == 0 {
			step = 1
		}
		if got := census.Nodes(pages+1) - census.Nodes(pages); got != step {
			t.Errorf("Nodes(%d) is %d above Nodes(%d)", pages+1, got, pages)
		}
	}
}

func TestWorth(t *testing.T) {
	for i, want := range []int{7, 9, 7, 4} {
		if got := census.Worth(sound().l.Procs[i]); got != want {
			t.Errorf("process %d: %d, want %d", i, got, want)
		}
	}
	if got := census.Worth(api.ProcLook{}); got != 1 {
		t.Errorf("of no process: %d", got)
	}
	p := api.ProcLook{Size: 1 << 30, Nodes: make([]uint64, 2), Pages: make([]api.PageLook, 11), State: 99}
	if got := census.Worth(p); got != 14 {
		t.Errorf("what it has counts, not what its size asks for: %d", got)
	}
}

// TestReachByRights has a page of each set of rights.
func TestReachByRights(t *testing.T) {
	const bits = 256
	p := api.ProcLook{Slot: 4, State: api.ProcRun}
	var want [3][]uint64
	for perm := range uint64(bits) {
		frame := at(bits - int(perm))
		p.Pages = append(p.Pages, api.PageLook{Page: 7, Frame: frame, Perm: perm})
		for n, right := range []uint64{api.PteR, api.PteW, api.PteX} {
			if perm&api.PteU != 0 && perm&right != 0 {
				want[n] = append(want[n], frame)
			}
		}
	}
	read, write, run := census.Reach(api.OsLook{Procs: []api.ProcLook{p}}, 4)
	if got := [3][]uint64{read, write, run}; !reflect.DeepEqual(got, want) || len(read) != 64 {
		t.Errorf("%x, want %x", got, want)
	}
}

func TestReach(t *testing.T) {
	l := sound().l
	has := func(what string, slot int, want [3][]uint64) {
		t.Helper()
		read, write, run := census.Reach(l, slot)
		if got := [3][]uint64{read, write, run}; !reflect.DeepEqual(got, want) {
			t.Errorf("%s: %x, want %x", what, got, want)
		}
	}
	has("the first process", 0, [3][]uint64{{at(6)}, nil, {at(6)}})
	has("without the guard page", 2, [3][]uint64{{at(13), at(15)}, {at(13), at(15)}, nil})
	has("a zombie", 5, [3][]uint64{})
	has("without pages", 63, [3][]uint64{})
	for _, slot := range []int{1, -1, 64, math.MinInt, math.MaxInt} {
		has("no process", slot, [3][]uint64{})
	}
	l.Procs[1].State = 0
	has("a state that may not be", 2, [3][]uint64{{at(13), at(15)}, {at(13), at(15)}, nil})
	l.Procs[3].Slot, l.Procs[3].Pages = 0, l.Procs[1].Pages
	has("the first of two", 0, [3][]uint64{{at(6)}, nil, {at(6)}})
	l.Procs[0].State = api.ProcZombie
	has("the first of two, a zombie", 0, [3][]uint64{})
	l = api.OsLook{}
	has("the zero look", 0, [3][]uint64{})
}

func TestChildren(t *testing.T) {
	l := sound().l
	has := func(what string, slot int, want ...int) {
		t.Helper()
		if got := census.Children(l, slot); !slices.Equal(got, want) || (got == nil) != (want == nil) {
			t.Errorf("%s: %v, want %v", what, got, want)
		}
	}
	has("the first's, but itself", 0, 2, 63)
	has("a zombie is a child", 2, 5)
	has("none", 5)
	has("none", 63)
	for _, slot := range []int{1, -1, 64, math.MinInt, math.MaxInt} {
		has("no process", slot)
	}
	l.Procs[3], l.Procs[1] = l.Procs[1], l.Procs[3]
	has("in the look's order", 0, 63, 2)
	l.Procs[2].Parent, l.Procs[1].Parent = -7, -7
	has("of a slot that may not be", -7, 63, 5)
	l.Procs[1].Slot = 5
	has("one slot twice", -7, 5, 5)
	l.Procs[1].Slot = -7
	has("itself again", -7, 5)
	l = api.OsLook{}
	has("the zero look", 0)
}
