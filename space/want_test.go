package space_test

// P8.17: what is refused, with any number of free frames, changed no byte of RAM, no size and no free frame (world holds all of it against each other behind each refusal).

import (
	"testing"

	"hartix/api"
)

func TestAnyNumberOfFreeFrames(t *testing.T) {
	outcomes := map[api.Errno]int{}
	for free := range 20 {
		for _, pages := range []int{0, 1, 4} {
			w := newWorld(t, 48)
			p := w.begin()
			w.grow(p, uint64(pages)*page, rw)
			w.fillPages(p, 0x7A)
			g := w.frame()
			for _, to := range []int{0, 1, 2, 5, 8, 14} {
				w.leave(free)
				outcomes[w.grow(p, uint64(to)*page+1, rw)]++
				w.shrink(p, uint64(pages)*page)
				w.leave(free)
				if c, errno := w.copy(p, g); errno == api.OK {
					w.free(c)
				} else {
					outcomes[errno]++
				}
				w.leave(free)
				if c, errno := w.make(g, first); errno == api.OK {
					w.free(c)
				} else {
					outcomes[errno]++
				}
			}
		}
	}
	if outcomes[api.OK] < 100 || outcomes[api.ErrSpaceRoom] < 200 || outcomes[api.ErrSpaceSize] < 50 {
		t.Errorf("%v", outcomes)
	}
}

// Frames that one space gives back are another one's at once.
func TestFramesGoFromSpaceToSpace(t *testing.T) {
	w := newWorld(t, 24)
	p, q := w.begin(), w.begin()
	w.leave(9)
	for range 4 {
		code(t, "Grow", w.grow(p, 7*page, rw), api.OK)
		w.fillPages(p, 0xD7)
		code(t, "Grow of the other", w.grow(q, 1, rw), api.ErrSpaceRoom)
		code(t, "Shrink", w.shrink(p, 0), api.OK)
		code(t, "Grow of the other", w.grow(q, 7*page, mayRead), api.OK)
		code(t, "Grow", w.grow(p, 1, rw), api.ErrSpaceRoom)
		code(t, "Shrink of the other", w.shrink(q, 0), api.OK)
	}
}
