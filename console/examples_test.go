package console_test

// The chapter's examples.

import (
	"reflect"
	"strings"
	"testing"

	"hartix/api"
	"hartix/console"
)

// echo makes the answer's form of a text: none is nil.
func echo(s string) []byte { return newOrNil([]byte(s)) }

func wantType(t *testing.T, c *console.Console, b byte, e string, ready bool) {
	t.Helper()
	if got, gotReady := c.Type(b); !reflect.DeepEqual(got, echo(e)) || gotReady != ready {
		t.Errorf("Type(%#x) = %#v, %v, want %#v, %v", b, got, gotReady, echo(e), ready)
	}
}

func wantTake(t *testing.T, c *console.Console, n int, b string, ok bool) {
	t.Helper()
	if got, gotOk := c.Peek(n); !reflect.DeepEqual(got, echo(b)) || gotOk != ok {
		t.Errorf("Peek(%d) = %#v, %v, want %q, %v", n, got, gotOk, b, ok)
	}
	if got, gotOk := c.Take(n); !reflect.DeepEqual(got, echo(b)) || gotOk != ok {
		t.Errorf("Take(%d) = %#v, %v, want %q, %v", n, got, gotOk, b, ok)
	}
}

func wantState(t *testing.T, c *console.Console, ready, line string) {
	t.Helper()
	if s := c.State(); !reflect.DeepEqual(s, api.ConsoleState{Ready: echo(ready), Line: echo(line)}) {
		t.Errorf("State = %#v, want %q, %q", s, ready, line)
	}
}

func TestExample1(t *testing.T) {
	c := console.New()
	wantType(t, c, 'a', "a", false)
	wantType(t, c, 'b', "b", false)
	wantType(t, c, 0x08, "\x08\x20\x08", false)
	wantType(t, c, 'c', "c", false)
	wantType(t, c, 0x0D, "\x0A", true)
	wantTake(t, c, 9, "\x61\x63\x0A", true)
	wantTake(t, c, 9, "", false)
}

func TestExample2(t *testing.T) {
	c := console.New()
	wantType(t, c, 'x', "x", false)
	wantType(t, c, 'y', "y", false)
	wantType(t, c, 0x15, "\x08\x20\x08\x08\x20\x08", false)
	wantType(t, c, 0x08, "", false)
	wantType(t, c, 0x04, "", true)
	wantTake(t, c, 5, "", true)
	if c.Ready() {
		t.Error("the end was told, and is still ready")
	}
}

func TestExample3(t *testing.T) {
	c := console.New()
	wantType(t, c, 'a', "a", false)
	wantType(t, c, 0x04, "", true)
	wantType(t, c, 'b', "b", false)
	wantType(t, c, 0x0A, "\x0A", true)
	wantState(t, c, "\x61\x04\x62\x0A", "")
	wantTake(t, c, 9, "a", true)
	wantTake(t, c, 9, "", true)
	wantTake(t, c, 1, "b", true)
	wantTake(t, c, 0, "", true)
	wantTake(t, c, 9, "\x0A", true)
	wantTake(t, c, 9, "", false)
}

func TestExample4(t *testing.T) {
	c := console.New()
	for range 127 {
		wantType(t, c, 'z', "z", false)
	}
	wantType(t, c, 'z', "z", true)
	wantType(t, c, 'z', "", false)
	wantType(t, c, 0x0A, "", false)
	wantTake(t, c, 100, strings.Repeat("z", 100), true)
	wantType(t, c, 'q', "q", false)
	wantState(t, c, strings.Repeat("z", 28), "q")
}

func TestExample5(t *testing.T) {
	wantImageFault(t, api.ConsoleState{Line: []byte{0x0A}})
	c, err := console.From(api.ConsoleState{Ready: []byte("a"), Line: []byte("b")})
	if err != nil {
		t.Fatal(err)
	}
	wantTake(t, c, 9, "a", true)
	wantType(t, c, 0x0A, "\x0A", true)
	wantState(t, c, "\x62\x0A", "")
}
