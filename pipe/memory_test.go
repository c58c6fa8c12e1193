package pipe_test

// DOC.md, Memory: what is handed in is neither changed nor kept, what is handed out is new.

import (
	"bytes"
	"testing"

	"hartix/api"
	"hartix/pipe"
)

func spoil(b []byte) {
	b = b[:cap(b)]
	for k := range b {
		b[k] ^= 0xFF
	}
}

func TestPutKeepsItsArgument(t *testing.T) {
	for _, n := range []int{0, 1, 9, 511, 512, 513, 900} {
		for _, in := range []int{0, 5, 512} {
			w := from(t, row(in, 3), 400, true, true)
			room := row(n+64, 77)
			want := bytes.Clone(room)
			w.doPut(room[:n])
			if !bytes.Equal(room, want) {
				t.Errorf("%d bytes: what was handed in was changed", n)
			}
			spoil(room)
			w.check("a spoilt argument")
		}
	}
}

func TestFromKeepsItsArgument(t *testing.T) {
	for _, n := range []int{0, 1, 9, 511, 512} {
		room := row(n+64, 77)
		want := bytes.Clone(room)
		p, err := pipe.From(api.PipeState{Bytes: room[:n], Reads: 400, Writes: modulo(400 + n), Reader: true, Writer: true})
		if err != nil || !bytes.Equal(room, want) {
			t.Fatalf("%d bytes: what was handed in was changed; %v", n, err)
		}
		spoil(room)
		if got := p.State().Bytes; !bytes.Equal(got, want[:n]) {
			t.Errorf("%d bytes: what was handed in was kept", n)
		}
		p.Put([]byte("more"))
		p.Take(3)
		spoil(room)
		if !bytes.Equal(room, want) {
			t.Errorf("%d bytes: the pipe writes into what was handed in", n)
		}
	}
}

func TestBytesHandedOutAreNew(t *testing.T) {
	for _, n := range []int{1, 9, 200, 511, 512} {
		for _, reads := range []int{0, 400, 1<<32 - 100} {
			w := from(t, row(512, 3), reads, true, true)
			one, two := w.p.State().Bytes, w.p.State().Bytes
			spoil(one)
			if !bytes.Equal(two, row(512, 3)) {
				t.Fatal("two states share memory")
			}
			w.check("a spoilt state")
			a, _ := w.doTake(n)
			kept := bytes.Clone(a)
			w.doPut(w.fresh(600))
			b, _ := w.doTake(600)
			spoil(b)
			if !bytes.Equal(a, kept) {
				t.Fatalf("Take(%d): the answer changes behind later calls", n)
			}
			spoil(a)
			w.check("spoilt answers")
		}
	}
}

// A state that was told stays as it is, whatever becomes of the pipe.
func TestStatesStay(t *testing.T) {
	w := from(t, row(300, 3), 400, true, true)
	s := w.p.State()
	w.doTake(200)
	w.doPut(w.fresh(512))
	w.doShut(true)
	if !bytes.Equal(s.Bytes, row(300, 3)) || s.Reads != 400 || s.Writes != 700 || !s.Reader || !s.Writer {
		t.Errorf("%+v", s)
	}
}

// Two pipes of one state have nothing in common.
func TestPipesAreApart(t *testing.T) {
	one := from(t, row(300, 3), 400, true, true)
	s := one.p.State()
	two, err := pipe.From(s)
	if err != nil {
		t.Fatal(err)
	}
	two.Take(100)
	two.Put(row(512, 9))
	two.Shut(false)
	one.check("calls on another pipe")
}
