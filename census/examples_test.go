package census_test

// The chapter's examples.

import (
	"reflect"
	"testing"

	"hartix/api"
	"hartix/census"
)

func TestExample1(t *testing.T) {
	l := api.OsLook{Tramp: 0x80000000, Free: 2}
	got := census.Take(3, l, []uint64{0x80002000, 0x80001000})
	want := api.Census{Frames: []api.FrameOwn{{Class: api.FrameTramp, Owner: 0, Times: 1}, {Class: api.FrameFree, Owner: 0, Times: 1}, {Class: api.FrameFree, Owner: 0, Times: 1}}}
	if !reflect.DeepEqual(got, want) {
		t.Errorf("%+v, want %+v", got, want)
	}
	less := l
	less.Free = 1
	seen{3, less, []uint64{0x80002000, 0x80001000}}.isWrong(t, "Free 1", api.WrongFree, 0)
	seen{3, l, []uint64{0x80002000, 0x80002000}}.isWrong(t, "one address twice", api.WrongLost, 1)
	seen{3, l, []uint64{0x80002000, 0x80003000}}.isWrong(t, "no frame's address", api.WrongPlace, 2)
}

func TestExample2(t *testing.T) {
	for pages, want := range map[int]int{0: 3, 1: 5, 512: 5, 513: 6} {
		if got := census.Nodes(pages); got != want {
			t.Errorf("Nodes(%d) = %d, want %d", pages, got, want)
		}
	}
}
