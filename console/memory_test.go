package console_test

// DOC.md, Memory: what is handed in is neither changed nor kept, what is handed out is new.

import (
	"bytes"
	"testing"

	"hartix/api"
	"hartix/console"
)

func spoil(b []byte) {
	b = b[:cap(b)]
	for k := range b {
		b[k] ^= 0xFF
	}
}

func TestFromKeepsItsArgument(t *testing.T) {
	for _, n := range [][2]int{{0, 0}, {0, 1}, {1, 0}, {9, 9}, {128, 0}, {0, 127}, {60, 60}} {
		ready, line := []byte(row(n[0]+200, 3)), []byte(row(n[1]+200, 5))
		readyWant, lineWant := bytes.Clone(ready), bytes.Clone(line)
		c, err := console.From(api.ConsoleState{Ready: ready[:n[0]], Line: line[:n[1]]})
		if err != nil {
			t.Fatal(err)
		}
		spoil(ready)
		spoil(line)
		wantState(t, c, string(readyWant[:n[0]]), string(lineWant[:n[1]]))
		c.Type('x')
		c.Type('\n')
		c.Take(3)
		c.Take(200)
		spoil(ready)
		spoil(line)
		if !bytes.Equal(ready, readyWant) || !bytes.Equal(line, lineWant) {
			t.Errorf("%v: what was handed in was changed", n)
		}
	}
}

// A refusal leaves what was handed in, too.
func TestRefusalKeepsItsArgument(t *testing.T) {
	ready, line := []byte("abc\x00d"), []byte("e\nf")
	wantImageFault(t, api.ConsoleState{Ready: ready[:3], Line: line})
	wantImageFault(t, api.ConsoleState{Ready: ready, Line: line[:1]})
	if string(ready) != "abc\x00d" || string(line) != "e\nf" {
		t.Errorf("%q, %q", ready, line)
	}
}

// answers makes every call that hands bytes out, on a console with a line and ready bytes; those of the calls that change it last.
func answers(c *console.Console) [][]byte {
	s, again := c.State(), c.State()
	peek, _ := c.Peek(9)
	more, _ := c.Peek(9)
	byte1, _ := c.Type('x')
	byte2, _ := c.Type('x')
	back, _ := c.Type(0x08)
	kill, _ := c.Type(0x15)
	end, _ := c.Type('\n')
	take, _ := c.Take(9)
	then, _ := c.Take(9)
	return [][]byte{s.Ready, s.Line, again.Ready, again.Line, peek, more, byte1, byte2, back, kill, end, take, then}
}

// Of all answers none changes when another one is spoilt, and the console doesn't either.
func TestAnswersAreNew(t *testing.T) {
	count := len(answers(from(t, "abc\nde\n", "fgh").c))
	for k := range count {
		c := from(t, "abc\nde\n", "fgh").c
		all := answers(c)
		want := make([][]byte, count)
		for j, b := range all {
			if len(b) == 0 {
				t.Fatalf("answer %d has no byte", j)
			}
			want[j] = bytes.Clone(b)
		}
		state := c.State()
		spoil(all[k])
		for j, b := range all {
			if j != k && !bytes.Equal(b, want[j]) {
				t.Errorf("answers %d and %d share memory", k, j)
			}
		}
		wantState(t, c, string(state.Ready), string(state.Line))
		c.Type('y')
		c.Type('\n')
		c.Take(9)
		spoil(all[k])
		if !bytes.Equal(all[k], want[k]) {
			t.Errorf("answer %d changes behind later calls", k)
		}
	}
}

// An answer that ends within the row has no room that reaches into the rest of it.
func TestSpareRoomIsNew(t *testing.T) {
	for _, n := range []int{1, 2, 60, 100} {
		w := from(t, row(100, 3), row(20, 4))
		peek, _ := w.doPeek(n)
		spoil(peek)
		w.check("a spoilt Peek")
		b, _ := w.doTake(n)
		spoil(b)
		w.check("a spoilt Take")
		s := w.c.State()
		spoil(s.Ready)
		if n < 100 && string(s.Line) != row(20, 4) {
			t.Errorf("%d: the rows of one state share memory", n)
		}
		spoil(s.Line)
		w.check("a spoilt state")
	}
}

// Two consoles of one state have nothing in common.
func TestConsolesAreApart(t *testing.T) {
	one := from(t, "abc\n", "de")
	two, err := console.From(one.c.State())
	if err != nil {
		t.Fatal(err)
	}
	two.Take(2)
	two.Type('x')
	two.Type('\n')
	one.check("calls on another console")
}
