package pipe_test

// A pipe beside what the chapter says that it must be: every call is made on both, and behind each one everything is held against each other (P10.6, P10.7).

import (
	"bytes"
	"errors"
	"fmt"
	"reflect"
	"testing"

	"hartix/api"
	"hartix/pipe"
)

type world struct {
	t    *testing.T
	p    *pipe.Pipe
	m    *plain
	put  []byte // all that the pipe said were put, those at the beginning first
	took []byte // all that it has given
	next byte   // what the next byte is that drawn calls put
}

func begin(t *testing.T) *world {
	t.Helper()
	w := &world{t: t, p: pipe.New(), m: &plain{}}
	w.check("New")
	return w
}

// from makes the pipe in which those bytes are and from which so many were taken.
func from(t *testing.T, b []byte, reads int, reader, writer bool) *world {
	t.Helper()
	m := &plain{ever: bytes.Clone(b), reads: reads, noRead: !reader, noWrite: !writer}
	p, err := pipe.From(api.PipeState{Bytes: b, Reads: modulo(reads), Writes: modulo(reads + len(b)), Reader: reader, Writer: writer})
	if p == nil || err != nil {
		t.Fatalf("From of %d bytes, %d taken = %v", len(b), reads, err)
	}
	w := &world{t: t, p: p, m: m, put: bytes.Clone(b)}
	w.check("From")
	return w
}

// doPut makes the call on both; it gives what the pipe answered.
func (w *world) doPut(b []byte) (int, int) {
	w.t.Helper()
	n, how := w.p.Put(b)
	wantN, wantHow := w.m.put(b)
	call := fmt.Sprintf("Put of %d bytes", len(b))
	if n != wantN || how != wantHow {
		w.t.Fatalf("%s = %d, %d, want %d, %d", call, n, how, wantN, wantHow)
	}
	w.put = append(w.put, b[:n]...)
	w.check(call)
	if how == api.PipeWait && len(w.p.State().Bytes) != full {
		w.t.Fatalf("%s must wait with %d bytes in the pipe", call, len(w.p.State().Bytes))
	}
	return n, how
}

func (w *world) doTake(n int) ([]byte, int) {
	w.t.Helper()
	b, how := w.p.Take(n)
	wantB, wantHow := w.m.take(n)
	call := fmt.Sprintf("Take(%d)", n)
	if !reflect.DeepEqual(b, wantB) || how != wantHow {
		w.t.Fatalf("%s = %#v, %d, want %#v, %d", call, b, how, wantB, wantHow)
	}
	w.took = append(w.took, b...)
	w.check(call)
	if how == api.PipeWait && w.p.State().Bytes != nil {
		w.t.Fatalf("%s must wait with %d bytes in the pipe", call, len(w.p.State().Bytes))
	}
	return b, how
}

func (w *world) doShut(reader bool) {
	w.t.Helper()
	w.p.Shut(reader)
	w.m.shut(reader)
	w.check(fmt.Sprintf("Shut(%v)", reader))
}

func (w *world) check(behind string) {
	w.t.Helper()
	s := w.p.State()
	if want := w.m.state(); !reflect.DeepEqual(s, want) {
		w.t.Fatalf("behind %s: %+v, want %+v", behind, s, want)
	}
	if !bytes.Equal(append(bytes.Clone(w.took), s.Bytes...), w.put) {
		w.t.Fatalf("behind %s: taken %d, in the pipe %d, these are not the %d that were put", behind, len(w.took), len(s.Bytes), len(w.put))
	}
	if s.Writes-s.Reads != uint32(len(s.Bytes)) {
		w.t.Fatalf("behind %s: %d bytes, counts %d and %d", behind, len(s.Bytes), s.Reads, s.Writes)
	}
}

// fresh gives n bytes that go on where the last ones ended, so that a byte at a wrong place is told.
func (w *world) fresh(n int) []byte {
	b := make([]byte, n)
	for k := range b {
		w.next += 7
		b[k] = w.next
	}
	return b
}

func row(n int, from byte) []byte {
	b := make([]byte, n)
	for k := range b {
		b[k] = from + byte(k*11)
	}
	return b
}

func wantImageFault(t *testing.T, s api.PipeState) {
	t.Helper()
	p, err := pipe.From(s)
	var f *api.Fault
	if p != nil || !errors.As(err, &f) || *f != (api.Fault{Layer: "pipe", At: 0, Err: api.ErrImage}) {
		t.Errorf("From of %d bytes, %d, %d = %v, %v", len(s.Bytes), s.Reads, s.Writes, p, err)
	}
}
