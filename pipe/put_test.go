package pipe_test

// P10.3, P10.4, P10.5.

import (
	"fmt"
	"math"
	"testing"

	"hartix/api"
)

// Each number of bytes put into a pipe with each number of bytes in it, near the edges.
func TestPutFits(t *testing.T) {
	for _, in := range []int{0, 1, 2, 255, 256, 510, 511, 512} {
		for _, n := range []int{0, 1, 2, 255, 256, 257, 510, 511, 512, 513, 1024, 5000} {
			for _, reads := range starts() {
				w := from(t, row(in, 3), reads, true, true)
				got, how := w.doPut(row(n, 100))
				wantN, wantHow := min(n, 512-in), api.PipeDone
				if n > 512-in {
					wantHow = api.PipeWait
				}
				if got != wantN || how != wantHow {
					t.Fatalf("Put of %d into %d = %d, %d", n, in, got, how)
				}
			}
		}
	}
}

func TestPutReasonsInOrder(t *testing.T) {
	for _, c := range []struct {
		name           string
		in, n          int
		reader, writer bool
		want, how      int
	}{
		{"no bytes, the reader's end shut", 0, 0, false, true, 0, api.PipeDone},
		{"no bytes, both ends shut", 5, 0, false, false, 0, api.PipeDone},
		{"no bytes, full", 512, 0, true, true, 0, api.PipeDone},
		{"no bytes, full, the reader's end shut", 512, 0, false, true, 0, api.PipeDone},
		{"the reader's end shut, room", 5, 1, false, true, 0, api.PipeBroken},
		{"both ends shut", 5, 1, false, false, 0, api.PipeBroken},
		{"the reader's end shut, full", 512, 1, false, true, 0, api.PipeBroken},
		{"the reader's end shut, more than room", 500, 100, false, true, 0, api.PipeBroken},
		{"full", 512, 1, true, true, 0, api.PipeWait},
		{"full, the writer's end shut", 512, 1, true, false, 0, api.PipeWait},
		{"the writer's end is not asked", 5, 9, true, false, 9, api.PipeDone},
		{"the writer's end is not asked, more than room", 510, 9, true, false, 2, api.PipeWait},
	} {
		t.Run(c.name, func(t *testing.T) {
			w := from(t, row(c.in, 3), 7, c.reader, c.writer)
			if n, how := w.doPut(row(c.n, 9)); n != c.want || how != c.how {
				t.Errorf("%d, %d, want %d, %d", n, how, c.want, c.how)
			}
		})
	}
}

// numbers are all kinds of numbers of bytes that may be asked for.
func numbers() []int {
	return []int{math.MinInt, -1 << 32, -512, -1, 0, 1, 2, 255, 256, 510, 511, 512, 513, 1 << 32, 1<<32 + 1, math.MaxInt}
}

func TestTakeGives(t *testing.T) {
	for _, in := range []int{0, 1, 2, 255, 256, 510, 511, 512} {
		for _, n := range numbers() {
			for _, reads := range starts() {
				w := from(t, row(in, 3), reads, true, true)
				b, how := w.doTake(n)
				wantHow := api.PipeDone
				if in == 0 && n > 0 {
					wantHow = api.PipeWait
				}
				if len(b) != max(0, min(in, n)) || how != wantHow {
					t.Fatalf("Take(%d) of %d = %d bytes, %d", n, in, len(b), how)
				}
			}
		}
	}
}

func TestTakeReasonsInOrder(t *testing.T) {
	for _, c := range []struct {
		in, n          int
		reader, writer bool
		want, how      int
	}{
		{0, 0, true, true, 0, api.PipeDone},
		{0, -1, true, true, 0, api.PipeDone},
		{0, math.MinInt, true, true, 0, api.PipeDone},
		{3, 0, true, true, 0, api.PipeDone},
		{3, -1, true, false, 0, api.PipeDone},
		{3, 2, true, true, 2, api.PipeDone},
		{3, 2, true, false, 2, api.PipeDone},
		{3, 2, false, false, 2, api.PipeDone},
		{3, 2, false, true, 2, api.PipeDone},
		{3, 9, true, true, 3, api.PipeDone},
		{3, 9, false, false, 3, api.PipeDone},
		{0, 1, true, true, 0, api.PipeWait},
		{0, 1, false, true, 0, api.PipeWait},
		{0, math.MaxInt, true, true, 0, api.PipeWait},
		{0, 1, true, false, 0, api.PipeDone},
		{0, 1, false, false, 0, api.PipeDone},
	} {
		t.Run(fmt.Sprint(c), func(t *testing.T) {
			w := from(t, row(c.in, 3), 7, c.reader, c.writer)
			if b, how := w.doTake(c.n); len(b) != c.want || how != c.how {
				t.Errorf("%v, %d, want %d bytes, %d", b, how, c.want, c.how)
			}
		})
	}
}

// One end that is shut leaves the other one; both stay shut, and the bytes stay in.
func TestShut(t *testing.T) {
	for _, in := range []int{0, 1, 512} {
		for _, order := range [][]bool{{true}, {false}, {true, false}, {false, true}, {true, true}, {false, false}, {true, false, true, false}} {
			w := from(t, row(in, 3), 500, true, true)
			for _, reader := range order {
				w.doShut(reader)
				w.doPut(row(2, 9))
				w.doTake(0)
			}
			w.doTake(600)
			w.doTake(1)
			w.doPut(row(1, 9))
			w.doPut(nil)
		}
	}
}

// Bytes that are in the pipe can be taken one by one when nobody has an end any more.
func TestBytesStay(t *testing.T) {
	w := from(t, row(512, 3), 100, true, true)
	w.doShut(true)
	w.doShut(false)
	for k := range 512 {
		if b, how := w.doTake(1); len(b) != 1 || how != api.PipeDone {
			t.Fatalf("byte %d = %v, %d", k, b, how)
		}
	}
	if b, how := w.doTake(1); b != nil || how != api.PipeDone {
		t.Errorf("the end is %v, %d", b, how)
	}
}
