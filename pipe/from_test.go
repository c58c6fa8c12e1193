package pipe_test

// P10.1, P10.2, and pipes that neither New nor From made.

import (
	"math"
	"reflect"
	"testing"

	"hartix/api"
	"hartix/pipe"
)

// starts are counts of reads at which something might go otherwise.
func starts() []int {
	return []int{0, 1, 2, 255, 256, 511, 512, 513, 1<<31 - 1, 1 << 31, 1<<31 + 1, 1<<32 - 513, 1<<32 - 512, 1<<32 - 511, 1<<32 - 2, 1<<32 - 1}
}

func TestNew(t *testing.T) {
	p, q := pipe.New(), pipe.New()
	wantState(t, p, api.PipeState{Reader: true, Writer: true})
	p.Put([]byte("a"))
	p.Shut(true)
	p.Shut(false)
	wantState(t, q, api.PipeState{Reader: true, Writer: true})
	wantState(t, pipe.New(), api.PipeState{Reader: true, Writer: true})
}

func TestFromAndState(t *testing.T) {
	for _, reads := range starts() {
		for _, n := range []int{0, 1, 2, 256, 510, 511, 512} {
			for ends := range 4 {
				b, reader, writer := row(n, byte(n)), ends&1 > 0, ends&2 > 0
				w := from(t, b, reads, reader, writer)
				s := w.p.State()
				p, err := pipe.From(s)
				if err != nil || !reflect.DeepEqual(p.State(), s) {
					t.Fatalf("%d bytes, %d taken: the state is not told again: %v", n, reads, err)
				}
			}
		}
	}
}

func TestFromOfNilAndEmpty(t *testing.T) {
	for _, b := range [][]byte{nil, {}} {
		p, err := pipe.From(api.PipeState{Bytes: b, Reads: 9, Writes: 9, Writer: true})
		if err != nil {
			t.Fatal(err)
		}
		wantState(t, p, api.PipeState{Reads: 9, Writes: 9, Writer: true})
	}
}

func TestFromTooMany(t *testing.T) {
	for _, n := range []int{513, 514, 1024, 1 << 16, 1 << 20} {
		for _, reads := range starts() {
			for _, counted := range []int{n, n % 512, 0, 512} {
				wantImageFault(t, api.PipeState{Bytes: make([]byte, n), Reads: modulo(reads), Writes: modulo(reads + counted), Reader: true, Writer: true})
			}
		}
	}
}

func TestFromWrongCounts(t *testing.T) {
	for _, n := range []int{0, 1, 2, 511, 512} {
		for _, reads := range starts() {
			for _, off := range []int{1, 2, 255, 256, 512, 1024, 1 << 16, 1 << 31, 1<<32 - 512, 1<<32 - 1} {
				s := api.PipeState{Bytes: make([]byte, n), Reads: modulo(reads), Writes: modulo(reads + n + off), Reader: true, Writer: true}
				wantImageFault(t, s)
				s.Reader, s.Writer = false, false
				wantImageFault(t, s)
			}
		}
	}
}

// Each refusal has a fault of its own.
func TestFaultsAreNew(t *testing.T) {
	_, one := pipe.From(api.PipeState{Reads: 1})
	one.(*api.Fault).At = 77
	wantImageFault(t, api.PipeState{Reads: 1})
}

// The state without anything is one of a pipe: both its ends are shut. One that nobody made answers otherwise.
func TestFromTheZeroState(t *testing.T) {
	p, err := pipe.From(api.PipeState{})
	if p == nil || err != nil {
		t.Fatal(err)
	}
	wantPut(t, p, nil, 0, api.PipeDone)
	wantPut(t, p, []byte("a"), 0, api.PipeBroken)
	wantTake(t, p, 1, nil, api.PipeDone)
	p.Shut(true)
	p.Shut(false)
	wantState(t, p, api.PipeState{})
}

func TestPipesThatNobodyMade(t *testing.T) {
	for _, p := range []*pipe.Pipe{nil, {}, new(pipe.Pipe)} {
		for range 2 {
			for _, b := range [][]byte{nil, {}, []byte("a"), make([]byte, 512), make([]byte, 513)} {
				wantPut(t, p, b, 0, api.PipeBroken)
			}
			for _, n := range []int{math.MinInt, -1, 0, 1, 2, 512, math.MaxInt} {
				wantTake(t, p, n, nil, api.PipeDone)
			}
			wantState(t, p, api.PipeState{})
			p.Shut(true)
			p.Shut(false)
		}
		if p != nil && *p != (pipe.Pipe{}) {
			t.Errorf("%+v", *p)
		}
	}
}
