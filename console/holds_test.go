package console_test

// P11.6 to P11.9: what holds whatever is done.

import (
	"fmt"
	"math"
	"reflect"
	"strings"
	"testing"

	"hartix/api"
	"hartix/console"
)

// act is one call on a world.
type act func(*world)

func acts() []act {
	out := []act{
		func(w *world) { w.doTake(1) },
		func(w *world) { w.doTake(2) },
		func(w *world) { w.doTake(math.MaxInt) },
		func(w *world) { w.doPeek(9) },
	}
	for _, key := range []byte{'a', 'b', 0, 0x04, 0x08, 0x0A, 0x0D, 0x15, 0x7F} {
		out = append(out, func(w *world) { w.doType(key) })
	}
	return out
}

// All rows of four calls, from a new console and from some that are nearly full.
func TestAllShortRows(t *testing.T) {
	all := acts()
	n := len(all)
	for k := range n * n * n * n {
		for _, w := range []*world{begin(t), from(t, row(125, 1), ""), from(t, "x\x04", row(124, 1))} {
			for _, a := range []int{k / (n * n * n), k / (n * n) % n, k / n % n, k % n} {
				all[a](w)
			}
		}
	}
}

// P11.6: lines come as they were typed, whoever reads between the keys.
func TestLinesComeAsTyped(t *testing.T) {
	keys := "first\rse\x08econd\x15second\nthi\x04\x04rd\x7F\x7F\x7F\x7Frd\n\n"
	want := "first\nsecond\nthi\x04\x04rd\n\n"
	for every := 1; every <= len(keys); every++ {
		for _, n := range []int{1, 2, 3, 7, 200} {
			w := begin(t)
			for k := range len(keys) {
				w.doType(keys[k])
				if k%every == 0 {
					w.doTake(n)
				}
			}
			for w.c.Ready() {
				w.doTake(n)
			}
			if got := string(w.took); got != want {
				t.Fatalf("a Take(%d) every %d keys: %q", n, every, got)
			}
		}
	}
}

// P11.7: Take, Peek and Ready hang on what is ready alone.
func TestLineIsSeenByNobody(t *testing.T) {
	for _, ready := range []string{"", "a", "a\n", "\x04", "ab\x04", "ab\ncd\n"} {
		for _, n := range numbers() {
			want := read(from(t, ready, "").c, n)
			for _, line := range []string{"x", "xyz", row(100, 1), row(120, 2)} {
				if got := read(from(t, ready, line).c, n); got != want {
					t.Errorf("%q with the line %q, by %d: %s, want %s", ready, line, n, got, want)
				}
			}
		}
	}
}

// read tells all that one who reads is told.
func read(c *console.Console, n int) string {
	out := ""
	for range 4 {
		peek, isThere := c.Peek(n)
		out += fmt.Sprint(c.Ready(), peek, isThere)
		b, ok := c.Take(n)
		out += fmt.Sprintln(b, ok)
	}
	return out
}

// Keys are answered alike, whichever bytes are ready, if they are as many.
func TestTypeHangsOnTheNumber(t *testing.T) {
	keys := "ab\x08c\x15d\x7F\x7F\re\x04\x00fgh\n" + row(130, 2) + "\x08\x15\n\x04"
	for _, n := range []int{1, 2, 20, 64, 100, 126, 127, 128} {
		for _, line := range []int{0, 1, 27} {
			if line > 0 && n+line >= full {
				continue
			}
			want := written(from(t, row(n, 1), row(line, 5)).c, keys)
			for _, other := range []string{row(n, 8), strings.Repeat("\n", n), strings.Repeat("\x04", n), strings.Repeat("\xFF", n), row(n-1, 3) + "\n"} {
				if got := written(from(t, other, row(line, 5)).c, keys); got != want {
					t.Errorf("%d ready bytes, %.5q: %s, want %s", n, other, got, want)
				}
			}
		}
	}
}

// written tells all that one who types is told, and the line behind each key.
func written(c *console.Console, keys string) string {
	out := ""
	for k := range len(keys) {
		e, ready := c.Type(keys[k])
		s := c.State()
		out += fmt.Sprintln(e, ready, len(s.Ready), s.Line)
	}
	return out
}

// P11.8: 128 bytes without a newline are a line, however many were taken back; what is typed beyond is lost until some are read.
func TestBound(t *testing.T) {
	for back := range 5 {
		w := begin(t)
		w.doKeys(row(100, 1) + strings.Repeat("\x08", back) + row(27+back, 2))
		if w.c.Ready() {
			t.Fatal("127 bytes are a line")
		}
		if _, ready := w.doType('q'); !ready {
			t.Fatal("128 bytes are none")
		}
		kept := w.c.State()
		w.doKeys("lost\n\r\x04\x08\x7F\x15more")
		if !reflect.DeepEqual(w.c.State(), kept) {
			t.Fatalf("a full console takes keys: %+v", w.c.State())
		}
		w.doTake(1 + back)
		w.doKeys(row(9, 4))
		wantState(t, w.c, string(kept.Ready[1+back:])+row(9, 4)[:1+back], "")
	}
}

// With bytes ready the line has the room that they leave; what is erased gives its room back.
func TestRoomOfTheLine(t *testing.T) {
	for n := range 128 {
		w := from(t, row(n, 1), "")
		w.doKeys(row(127-n, 2))
		w.doKeys("\x08\x7F")
		w.doKeys(row(min(2, 127-n), 3))
		if got := len(w.c.State().Line); got != 127-n {
			t.Fatalf("%d ready: the line has %d", n, got)
		}
		w.doKeys("\x15")
		w.doKeys(row(127-n, 4))
		if _, ready := w.doType('z'); !ready || len(w.c.State().Ready) != full {
			t.Fatalf("%d ready: %d behind the last key", n, len(w.c.State().Ready))
		}
	}
}

// P11.9: two calls within one line are as one of both.
func TestTwoAsOne(t *testing.T) {
	for _, ready := range []string{"abcdef\n", "abcdef", "abc\x04def\n", "a\nbcd\n", row(128, 1), "ab\x04"} {
		for m := 1; m <= len(ready); m++ {
			for _, n := range []int{1, 2, 3, 64, 128} {
				one, two := from(t, ready, "").c, from(t, ready, "").c
				a, _ := one.Take(m)
				if len(a) < m || strings.IndexByte(string(a), '\n') >= 0 {
					continue
				}
				isEnd := endIsNext(one)
				b, _ := one.Take(n)
				all, _ := two.Take(m + n)
				if string(a)+string(b) != string(all) || !isEnd && !reflect.DeepEqual(one.State(), two.State()) {
					t.Errorf("%q by %d and %d: %q, %q; both: %q", ready, m, n, a, b, all)
				}
			}
		}
	}
}

// endIsNext tells whether the next call tells the end of input: that is gone by the second of two calls, and stays behind one of both.
func endIsNext(c *console.Console) bool {
	s := c.State()
	return len(s.Ready) > 0 && s.Ready[0] == api.KeyEnd
}
