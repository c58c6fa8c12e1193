package console_test

// P11.1, P11.5, and consoles that neither New nor From made.

import (
	"reflect"
	"strings"
	"testing"

	"hartix/api"
	"hartix/console"
)

func TestNew(t *testing.T) {
	c, d := console.New(), console.New()
	wantState(t, c, "", "")
	c.Type('a')
	c.Type(0x0A)
	c.Type('b')
	wantState(t, d, "", "")
	wantState(t, console.New(), "", "")
	if d.Ready() {
		t.Error("a new console is ready")
	}
}

// sizes are pairs of numbers of bytes near the edges.
func sizes() [][2]int {
	var out [][2]int
	for _, ready := range []int{0, 1, 2, 64, 126, 127, 128, 129, 255, 256, 1 << 16} {
		for _, line := range []int{0, 1, 2, 64, 126, 127, 128, 129, 255, 256, 1 << 16} {
			out = append(out, [2]int{ready, line})
		}
	}
	return out
}

func TestFromBySize(t *testing.T) {
	for _, n := range sizes() {
		s := api.ConsoleState{Ready: echo(row(n[0], 1)), Line: echo(row(n[1], 9))}
		if n[0]+n[1] > full || n[0]+n[1] == full && n[1] > 0 {
			wantImageFault(t, s)
			continue
		}
		w := from(t, row(n[0], 1), row(n[1], 9))
		if got := w.c.State(); !reflect.DeepEqual(got, s) {
			t.Errorf("%v: %+v, want %+v", n, got, s)
		}
		w.renew()
	}
}

// Every byte at the beginning, in the middle and at the end of either row.
func TestFromByByte(t *testing.T) {
	for b := range 256 {
		key := string([]byte{byte(b)})
		for _, n := range []int{0, 1, 5, 127} {
			for _, at := range []int{0, n / 2, n} {
				other := row(n, byte(b))
				with := other[:at] + key + other[at:]
				for _, s := range []api.ConsoleState{{Ready: []byte(with)}, {Line: []byte(with)}, {Ready: []byte(with), Line: []byte("x")}, {Ready: []byte("x\n"), Line: []byte(with)}} {
					if !canBe(s) {
						wantImageFault(t, s)
					} else {
						from(t, string(s.Ready), string(s.Line))
					}
				}
			}
		}
	}
}

// What the chapter refuses, written out.
func TestFromRefuses(t *testing.T) {
	for _, s := range [][2]string{
		{"\x00", ""}, {"\x08", ""}, {"\x0D", ""}, {"\x15", ""}, {"\x7F", ""},
		{"", "\x00"}, {"", "\x08"}, {"", "\x0D"}, {"", "\x15"}, {"", "\x7F"}, {"", "\x0A"}, {"", "\x04"},
		{"ab\x00cd", ""}, {"abcd\x7F", "e"}, {"a\n", "b\x04"}, {"a\n", "b\nc"},
		{row(128, 1), "a"}, {row(129, 1), ""}, {"", row(129, 1)},
		{row(127, 1), "a"}, {"", row(128, 1)}, {row(64, 1), row(64, 2)},
	} {
		wantImageFault(t, api.ConsoleState{Ready: []byte(s[0]), Line: []byte(s[1])})
	}
}

func TestFromTakes(t *testing.T) {
	for _, s := range [][2]string{
		{"", ""}, {"\n", ""}, {"\x04", ""}, {"\x04\x04\n\n", ""}, {"a", ""}, {"", "a"}, {"a\x04b", "c"},
		{row(128, 1), ""}, {row(126, 1), "a"}, {"", row(127, 1)}, {strings.Repeat("\x04", 128), ""},
		{"\x01\x80\xFF\x09\x0B\x20\x7E", "\x01\x80\xFF\x09\x0B\x20\x7E"},
	} {
		from(t, s[0], s[1])
	}
}

// nil and empty rows are the same where they come in; a row without a byte goes out as nil.
func TestFromOfNilAndEmpty(t *testing.T) {
	for _, ready := range [][]byte{nil, {}} {
		for _, line := range [][]byte{nil, {}} {
			c, err := console.From(api.ConsoleState{Ready: ready, Line: line})
			if err != nil {
				t.Fatal(err)
			}
			wantState(t, c, "", "")
			wantType(t, c, 'a', "a", false)
		}
	}
}

// Each refusal has a fault of its own.
func TestFaultsAreNew(t *testing.T) {
	_, one := console.From(api.ConsoleState{Line: []byte("\n")})
	one.(*api.Fault).At = 77
	wantImageFault(t, api.ConsoleState{Line: []byte("\n")})
}

// From takes what calls can lead to: each state that it takes is reached from a new console, by keys and one Take.
func TestStatesThatFromTakesAreReached(t *testing.T) {
	s := scatter(5)
	for range 300 {
		ready := drawnRow(&s, s.below(129), true)
		line := drawnRow(&s, s.below(max(1, 128-len(ready))), false)
		want := from(t, ready, line)
		w := begin(t)
		pad := full - len(ready)
		w.doKeys(strings.Repeat("p", pad) + ready)
		w.doTake(pad)
		w.doKeys(line)
		if got := w.c.State(); !reflect.DeepEqual(got, want.c.State()) {
			t.Fatalf("%q, %q: %+v", ready, line, got)
		}
	}
}

func TestConsolesThatNobodyMade(t *testing.T) {
	for _, c := range []*console.Console{nil, {}, new(console.Console)} {
		for range 2 {
			for b := range 256 {
				wantType(t, c, byte(b), "", false)
			}
			for _, n := range numbers() {
				wantTake(t, c, n, "", false)
			}
			if c.Ready() {
				t.Error("ready")
			}
			wantState(t, c, "", "")
		}
		if c != nil && *c != (console.Console{}) {
			t.Errorf("%+v", *c)
		}
	}
}
