package pipe_test

// P10.6 to P10.9: what holds whatever is done.

import (
	"bytes"
	"fmt"
	"math"
	"reflect"
	"testing"

	"hartix/api"
	"hartix/pipe"
)

// act is one call on a world.
type act func(*world)

func acts() []act {
	return []act{
		func(w *world) { w.doPut(nil) },
		func(w *world) { w.doPut(w.fresh(1)) },
		func(w *world) { w.doPut(w.fresh(300)) },
		func(w *world) { w.doPut(w.fresh(513)) },
		func(w *world) { w.doTake(0) },
		func(w *world) { w.doTake(1) },
		func(w *world) { w.doTake(300) },
		func(w *world) { w.doTake(math.MaxInt) },
		func(w *world) { w.doShut(true) },
		func(w *world) { w.doShut(false) },
	}
}

// All rows of four calls, from a new pipe and from one whose counts go round.
func TestAllShortRows(t *testing.T) {
	all := acts()
	n := len(all)
	for k := range n * n * n * n {
		for _, w := range []*world{begin(t), from(t, row(200, 1), 1<<32-300, true, true)} {
			for _, a := range []int{k / (n * n * n), k / (n * n) % n, k / n % n, k % n} {
				all[a](w)
			}
		}
	}
}

// P10.7: a writer that waits goes on as soon as something was taken, whatever that was.
func TestWaitingGoesOn(t *testing.T) {
	for _, in := range []int{0, 1, 500, 512} {
		for _, n := range []int{1, 2, 511, 512, 513, 1000} {
			for _, reads := range starts() {
				w := from(t, row(in, 3), reads, true, true)
				rest := w.fresh(1200)
				put, how := w.doPut(rest)
				if how != api.PipeWait {
					t.Fatalf("Put of 1200 into %d = %d, %d", in, put, how)
				}
				b, how := w.doTake(n)
				if len(b) == 0 || how != api.PipeDone {
					t.Fatalf("Take(%d) of a full pipe = %d bytes, %d", n, len(b), how)
				}
				if more, _ := w.doPut(rest[put:]); more < 1 || more != min(len(b), len(rest)-put) {
					t.Fatalf("%d bytes were taken, %d put", len(b), more)
				}
			}
		}
	}
}

// A reader that waits goes on as soon as something is put; all that waits goes through in the end.
func TestAllGoesThrough(t *testing.T) {
	for _, c := range [][2]int{{5000, 1}, {5000, 7}, {5000, 512}, {5000, 600}, {513, 1}, {1, 9}} {
		w := begin(t)
		all := w.fresh(c[0])
		rest := all
		var got []byte
		for len(got) < len(all) {
			n, how := w.doPut(rest)
			if rest = rest[n:]; how == api.PipeBroken {
				t.Fatal("nobody shut the reader's end")
			}
			b, how := w.doTake(c[1])
			if got = append(got, b...); how != api.PipeDone {
				t.Fatalf("with %d bytes put: %d", len(all)-len(rest), how)
			}
		}
		if _, how := w.doTake(1); !bytes.Equal(got, all) || how != api.PipeWait {
			t.Errorf("%d bytes by %d: %d came", c[0], c[1], len(got))
		}
	}
}

func copyOf(t *testing.T, p *pipe.Pipe) *pipe.Pipe {
	t.Helper()
	q, err := pipe.From(p.State())
	if err != nil {
		t.Fatal(err)
	}
	return q
}

// P10.8: two calls that are done are as one of both.
func TestTwoAsOne(t *testing.T) {
	for _, in := range []int{0, 1, 300, 512} {
		for _, a := range []int{0, 1, 200, 300, 512} {
			for _, b := range []int{0, 1, 200, 300, 512} {
				for _, reads := range []int{0, 300, 1<<32 - 400, 1<<32 - 1} {
					p := from(t, row(in, 3), reads, true, true).p
					putBoth(t, copyOf(t, p), copyOf(t, p), row(a, 50), row(b, 150))
					takeBoth(t, copyOf(t, p), copyOf(t, p), a, b)
				}
			}
		}
	}
}

func putBoth(t *testing.T, one, two *pipe.Pipe, a, b []byte) {
	t.Helper()
	n, howN := one.Put(a)
	m, howM := one.Put(b)
	if howN != api.PipeDone {
		m, howM = 0, howN
		b = nil
	}
	all, how := two.Put(append(bytes.Clone(a), b...))
	if all != n+m || how != howM || !reflect.DeepEqual(one.State(), two.State()) {
		t.Errorf("%d and %d bytes: %d and %d, %d; both: %d, %d", len(a), len(b), n, m, howM, all, how)
	}
}

func takeBoth(t *testing.T, one, two *pipe.Pipe, m, n int) {
	t.Helper()
	a, _ := one.Take(m)
	b, _ := one.Take(n)
	all, _ := two.Take(m + n)
	if !bytes.Equal(append(a, b...), all) || !reflect.DeepEqual(one.State(), two.State()) {
		t.Errorf("Take(%d), Take(%d): %d and %d bytes; both: %d", m, n, len(a), len(b), len(all))
	}
}

// P10.9: from whatever counts a pipe begins, the same calls are answered alike, and the counts go up alike.
func TestCountsTurnNothing(t *testing.T) {
	counts := starts()
	for k := range 1024 {
		counts = append(counts, 1<<32-k)
	}
	want := told(from(t, row(9, 3), 0, true, true), 0)
	for _, reads := range counts {
		if got := told(from(t, row(9, 3), reads%(1<<32), true, true), reads); got != want {
			t.Fatalf("with %d taken ahead:\n%s\nwant\n%s", reads, got, want)
		}
	}
}

// told makes a row of calls that goes round the ring several times, and tells all answers with counts as from 0 on.
func told(w *world, reads int) string {
	out := ""
	for k, n := range []int{500, 20, 3, 512, 100, 700, 1, 2, 511, 513, 0, 64} {
		put, how := w.doPut(row(n, byte(k)))
		b, as := w.doTake(n - k*3)
		s := w.p.State()
		out += fmt.Sprintln(put, how, b, as, s.Bytes, s.Reads-modulo(reads), s.Writes-modulo(reads))
	}
	return out
}
