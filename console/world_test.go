package console_test

// A console beside what the chapter says that it must be: every call is made on both, and behind each one everything is held against each other (P11.6, P11.8).

import (
	"bytes"
	"errors"
	"fmt"
	"math"
	"reflect"
	"testing"

	"hartix/api"
	"hartix/console"
)

type world struct {
	t     *testing.T
	c     *console.Console
	m     *plain
	typed []byte // all bytes of finished lines, those that were ready at the beginning first
	took  []byte // all that it has given, with a KeyEnd where it told the end
}

func begin(t *testing.T) *world {
	t.Helper()
	w := &world{t: t, c: console.New(), m: &plain{}}
	w.check("New")
	return w
}

func from(t *testing.T, ready, line string) *world {
	t.Helper()
	s := api.ConsoleState{Ready: []byte(ready), Line: []byte(line)}
	c, err := console.From(s)
	if c == nil || err != nil {
		t.Fatalf("From of %q, %q = %v, %v", ready, line, c, err)
	}
	w := &world{t: t, c: c, m: &plain{ready: []byte(ready), line: []byte(line)}, typed: []byte(ready)}
	w.check("From")
	return w
}

// doType makes the call on both; it gives what the console answered.
func (w *world) doType(b byte) ([]byte, bool) {
	w.t.Helper()
	line := w.c.State().Line
	echo, ready := w.c.Type(b)
	wantEcho, wantReady := w.m.typed(b)
	if ready {
		w.typed = append(append(w.typed, line...), taken(b))
	}
	w.alike(fmt.Sprintf("Type(%#x)", b), echo, ready, wantEcho, wantReady)
	return echo, ready
}

// taken tells what a key is in the line.
func taken(b byte) byte {
	if b == 0x0D {
		return 0x0A
	}
	return b
}

func (w *world) doTake(n int) ([]byte, bool) {
	w.t.Helper()
	b, ok := w.c.Take(n)
	wantB, wantOk := w.m.take(n)
	if b == nil && ok && n >= 1 {
		w.took = append(w.took, api.KeyEnd)
	}
	w.took = append(w.took, b...)
	w.alike(fmt.Sprintf("Take(%d)", n), b, ok, wantB, wantOk)
	return b, ok
}

func (w *world) doPeek(n int) ([]byte, bool) {
	w.t.Helper()
	b, ok := w.c.Peek(n)
	wantB, wantOk := w.m.peek(n)
	w.alike(fmt.Sprintf("Peek(%d)", n), b, ok, wantB, wantOk)
	return b, ok
}

// alike holds an answer against the one that the chapter says, and then all the rest.
func (w *world) alike(call string, b []byte, ok bool, wantB []byte, wantOk bool) {
	w.t.Helper()
	if !reflect.DeepEqual(b, wantB) || ok != wantOk {
		w.t.Fatalf("%s = %#v, %v, want %#v, %v", call, b, ok, wantB, wantOk)
	}
	w.check(call)
}

func (w *world) check(behind string) {
	w.t.Helper()
	s := w.c.State()
	if want := w.m.state(); !reflect.DeepEqual(s, want) {
		w.t.Fatalf("behind %s: %q, %q, want %q, %q", behind, s.Ready, s.Line, want.Ready, want.Line)
	}
	if w.c.Ready() != (len(s.Ready) > 0) {
		w.t.Fatalf("behind %s: Ready = %v with %d bytes", behind, w.c.Ready(), len(s.Ready))
	}
	if !bytes.Equal(append(bytes.Clone(w.took), s.Ready...), w.typed) {
		w.t.Fatalf("behind %s: taken %q, ready %q: these are not %q", behind, w.took, s.Ready, w.typed)
	}
	if n := len(s.Ready) + len(s.Line); n > full || n == full && len(s.Line) > 0 {
		w.t.Fatalf("behind %s: %d bytes, %d of them in the line", behind, n, len(s.Line))
	}
}

func (w *world) doKeys(s string) {
	w.t.Helper()
	for k := range len(s) {
		w.doType(s[k])
	}
}

// renew goes on with the console that its state tells.
func (w *world) renew() {
	w.t.Helper()
	c, err := console.From(w.c.State())
	if err != nil {
		w.t.Fatal(err)
	}
	w.c = c
	w.check("From")
}

// numbers are all kinds of numbers of bytes that may be asked for.
func numbers() []int {
	return []int{math.MinInt, -1 << 32, -128, -1, 0, 1, 2, 3, 63, 126, 127, 128, 129, 256, 1 << 32, 1<<32 + 1, math.MaxInt}
}

// row gives n bytes without a newline, an end or a key that does something, neighbours never alike.
func row(n int, from byte) string {
	b := make([]byte, n)
	for k := range b {
		b[k] = 'A' + (from+byte(k*7))%26
	}
	return string(b)
}

func wantImageFault(t *testing.T, s api.ConsoleState) {
	t.Helper()
	c, err := console.From(s)
	var f *api.Fault
	if c != nil || !errors.As(err, &f) || *f != (api.Fault{Layer: "console", At: 0, Err: api.ErrImage}) {
		t.Errorf("From of %q, %q = %v, %v", s.Ready, s.Line, c, err)
	}
}
