package pipe_test

// The chapter's examples.

import (
	"reflect"
	"testing"

	"hartix/api"
	"hartix/pipe"
)

func wantPut(t *testing.T, p *pipe.Pipe, b []byte, n, how int) {
	t.Helper()
	if gotN, gotHow := p.Put(b); gotN != n || gotHow != how {
		t.Errorf("Put of %d bytes = %d, %d, want %d, %d", len(b), gotN, gotHow, n, how)
	}
}

func wantTake(t *testing.T, p *pipe.Pipe, n int, b []byte, how int) {
	t.Helper()
	if got, gotHow := p.Take(n); !reflect.DeepEqual(got, b) || gotHow != how {
		t.Errorf("Take(%d) = %#v, %d, want %#v, %d", n, got, gotHow, b, how)
	}
}

func wantState(t *testing.T, p *pipe.Pipe, want api.PipeState) {
	t.Helper()
	if s := p.State(); !reflect.DeepEqual(s, want) {
		t.Errorf("State = %+v, want %+v", s, want)
	}
}

func TestExample1(t *testing.T) {
	p := pipe.New()
	first, second := row(500, 1), row(20, 200)
	wantPut(t, p, first, 500, api.PipeDone)
	wantPut(t, p, second, 12, api.PipeWait)
	wantTake(t, p, 5, first[:5], api.PipeDone)
	wantPut(t, p, second[12:], 5, api.PipeWait)
	in := append(append([]byte{}, first[5:]...), second[:17]...)
	wantState(t, p, api.PipeState{Bytes: in, Reads: 5, Writes: 517, Reader: true, Writer: true})
}

func TestExample2(t *testing.T) {
	p := pipe.New()
	wantTake(t, p, 1, nil, api.PipeWait)
	p.Shut(false)
	wantTake(t, p, 1, nil, api.PipeDone)
	p = pipe.New()
	wantPut(t, p, []byte("ab"), 2, api.PipeDone)
	p.Shut(false)
	wantTake(t, p, 9, []byte("ab"), api.PipeDone)
	wantTake(t, p, 9, nil, api.PipeDone)
	wantState(t, p, api.PipeState{Reads: 2, Writes: 2, Reader: true})
}

func TestExample3(t *testing.T) {
	p := pipe.New()
	p.Shut(true)
	wantPut(t, p, []byte("a"), 0, api.PipeBroken)
	wantPut(t, p, nil, 0, api.PipeDone)
	p = pipe.New()
	wantPut(t, p, []byte("x"), 1, api.PipeDone)
	p.Shut(true)
	wantPut(t, p, []byte("a"), 0, api.PipeBroken)
	wantPut(t, p, nil, 0, api.PipeDone)
	wantTake(t, p, 1, []byte("x"), api.PipeDone)
	wantState(t, p, api.PipeState{Reads: 1, Writes: 1, Writer: true})
}

func TestExample4(t *testing.T) {
	p, err := pipe.From(api.PipeState{Bytes: []byte("ab"), Reads: 1<<32 - 1, Writes: 1, Reader: true, Writer: true})
	if err != nil {
		t.Fatal(err)
	}
	wantPut(t, p, []byte("c"), 1, api.PipeDone)
	wantState(t, p, api.PipeState{Bytes: []byte("abc"), Reads: 1<<32 - 1, Writes: 2, Reader: true, Writer: true})
	wantImageFault(t, api.PipeState{Reads: 1, Writes: 0})
}
