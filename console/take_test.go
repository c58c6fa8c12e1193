package console_test

// P11.3, P11.4: what is read.

import (
	"fmt"
	"math"
	"strings"
	"testing"
)

func TestReady(t *testing.T) {
	for _, c := range []struct {
		ready, line string
		want        bool
	}{
		{"", "", false}, {"", "a", false}, {"", row(127, 1), false}, {"a", "", true}, {"\n", "", true}, {"\x04", "", true}, {"\x04", "a", true}, {row(128, 1), "", true},
	} {
		if got := from(t, c.ready, c.line).c.Ready(); got != c.want {
			t.Errorf("%q, %q: Ready = %v", c.ready, c.line, got)
		}
	}
}

func TestTakeInOrder(t *testing.T) {
	for _, c := range []struct {
		ready string
		n     int
		want  string
		ok    bool
		rest  string
	}{
		{"", 1, "", false, ""},
		{"", 0, "", false, ""},
		{"", -1, "", false, ""},
		{"", math.MinInt, "", false, ""},
		{"", math.MaxInt, "", false, ""},
		{"a\n", 0, "", true, "a\n"},
		{"a\n", -1, "", true, "a\n"},
		{"a\n", math.MinInt, "", true, "a\n"},
		{"\x04", 0, "", true, "\x04"},
		{"\x04a\n", -1, "", true, "\x04a\n"},
		{"\x04", 1, "", true, ""},
		{"\x04", math.MaxInt, "", true, ""},
		{"\x04\x04", 9, "", true, "\x04"},
		{"\x04a\n", 9, "", true, "a\n"},
		{"\x04\n", 9, "", true, "\n"},
		{"abc\n", 1, "a", true, "bc\n"},
		{"abc\n", 3, "abc", true, "\n"},
		{"abc\n", 4, "abc\n", true, ""},
		{"abc\n", 5, "abc\n", true, ""},
		{"ab\ncd\n", 3, "ab\n", true, "cd\n"},
		{"ab\ncd\n", 4, "ab\n", true, "cd\n"},
		{"ab\ncd\n", math.MaxInt, "ab\n", true, "cd\n"},
		{"\n\n", 9, "\n", true, "\n"},
		{"\n\x04", 9, "\n", true, "\x04"},
		{"ab\x04cd\n", 1, "a", true, "b\x04cd\n"},
		{"ab\x04cd\n", 2, "ab", true, "\x04cd\n"},
		{"ab\x04cd\n", 3, "ab", true, "\x04cd\n"},
		{"ab\x04cd\n", 9, "ab", true, "\x04cd\n"},
		{"a\nb\x04", 9, "a\n", true, "b\x04"},
		{"a\x04\n", 9, "a", true, "\x04\n"},
		{"abc", 2, "ab", true, "c"},
		{"abc", 3, "abc", true, ""},
		{"abc", 4, "abc", true, ""},
		{row(128, 1), 128, row(128, 1), true, ""},
		{row(128, 1), 129, row(128, 1), true, ""},
		{row(128, 1), math.MaxInt, row(128, 1), true, ""},
		{row(128, 1), 127, row(128, 1)[:127], true, row(128, 1)[127:]},
	} {
		for _, line := range []string{"", "l", "li"} {
			if len(c.ready)+len(line) >= full && line != "" {
				continue
			}
			t.Run(fmt.Sprintf("%.9q %q %d", c.ready, line, c.n), func(t *testing.T) {
				w := from(t, c.ready, line)
				wantTake(t, w.c, c.n, c.want, c.ok)
				wantState(t, w.c, c.rest, line)
			})
		}
	}
}

// Each number of bytes asked of each kind of ready row; Peek first, which changes nothing.
func TestTakeNumbers(t *testing.T) {
	for _, ready := range []string{"", "a", "\n", "\x04", "abc\n", "abc\x04", "abc", "a\nb\n", row(126, 1) + "\n\n", row(127, 1) + "\x04", row(128, 1), strings.Repeat("\n", 128), strings.Repeat("\x04", 128), row(63, 1) + "\n" + row(63, 2) + "\n"} {
		for _, n := range numbers() {
			w := from(t, ready, "")
			for range 4 {
				w.doPeek(n)
				w.doPeek(n)
				w.doTake(n)
			}
			w.doKeys("xy\n")
			w.doTake(n)
		}
	}
}

// What is ready can be read byte by byte, line by line, and all of it comes.
func TestAllIsRead(t *testing.T) {
	all := "one\ntwo\x04three\r\x04\x04\n" + row(100, 3) + "\n"
	for n := 1; n <= 130; n++ {
		w := begin(t)
		w.doKeys(all)
		for w.c.Ready() {
			w.doTake(n)
		}
		if got, want := string(w.took), strings.ReplaceAll(all, "\r", "\n"); got != want {
			t.Fatalf("by %d: %q, want %q", n, got, want)
		}
	}
}
