package console_test

// P11.2: what each key does.

import (
	"strings"
	"testing"

	"hartix/api"
)

// spots are states in which a key might do another thing.
func spots() [][2]string {
	return [][2]string{
		{"", ""}, {"", "a"}, {"", "abc"}, {"x\n", ""}, {"x\n", "ab"}, {"\x04", ""}, {"\x04", "ab"}, {"x", "a"},
		{"", row(126, 1)}, {"", row(127, 1)}, {row(126, 2), ""}, {row(126, 2), "a"}, {row(127, 2), ""}, {row(128, 2), ""},
		{strings.Repeat("\n", 127), ""}, {strings.Repeat("\x04", 128), ""}, {row(64, 3), row(63, 4)}, {row(64, 3), row(62, 4)},
	}
}

// Every key in every one of those, and what one reads behind it.
func TestEveryKey(t *testing.T) {
	for _, s := range spots() {
		for b := range 256 {
			w := from(t, s[0], s[1])
			w.doType(byte(b))
			w.doType(byte(b))
			for w.c.Ready() {
				w.doTake(200)
			}
			w.doType('\n')
			w.doTake(200)
		}
	}
}

func TestKeysInOrder(t *testing.T) {
	for _, c := range []struct {
		name        string
		ready, line string
		key         byte
		echo        string
		finished    bool
		behind      [2]string
	}{
		{"kill without a line", "x\n", "", 0x15, "", false, [2]string{"x\n", ""}},
		{"kill of one", "", "a", 0x15, "\b \b", false, [2]string{"", ""}},
		{"kill of three, ready bytes stay", "x\n", "abc", 0x15, "\b \b\b \b\b \b", false, [2]string{"x\n", ""}},
		{"kill of 127", "", row(127, 1), 0x15, strings.Repeat("\b \b", 127), false, [2]string{"", ""}},
		{"kill when all are ready", row(128, 1), "", 0x15, "", false, [2]string{row(128, 1), ""}},
		{"erase without a line", "x\n", "", 0x08, "", false, [2]string{"x\n", ""}},
		{"erase", "x\n", "ab", 0x08, "\b \b", false, [2]string{"x\n", "a"}},
		{"erase of the only one", "", "a", 0x08, "\b \b", false, [2]string{"", ""}},
		{"erase when all are ready", row(128, 1), "", 0x08, "", false, [2]string{row(128, 1), ""}},
		{"delete without a line", "x\n", "", 0x7F, "", false, [2]string{"x\n", ""}},
		{"delete", "x\n", "ab", 0x7F, "\b \b", false, [2]string{"x\n", "a"}},
		{"delete of the only one", "", "a", 0x7F, "\b \b", false, [2]string{"", ""}},
		{"delete when all are ready", row(128, 1), "", 0x7F, "", false, [2]string{row(128, 1), ""}},
		{"0", "x\n", "a", 0, "", false, [2]string{"x\n", "a"}},
		{"0 as the last", row(127, 1), "", 0, "", false, [2]string{row(127, 1), ""}},
		{"full", row(128, 1), "", 'a', "", false, [2]string{row(128, 1), ""}},
		{"newline, full", row(128, 1), "", 0x0A, "", false, [2]string{row(128, 1), ""}},
		{"carriage, full", row(128, 1), "", 0x0D, "", false, [2]string{row(128, 1), ""}},
		{"end, full", row(128, 1), "", 0x04, "", false, [2]string{row(128, 1), ""}},
		{"a byte", "x\n", "a", 'b', "b", false, [2]string{"x\n", "ab"}},
		{"the first byte of all", "", "", 0x01, "\x01", false, [2]string{"", "\x01"}},
		{"the last byte of all", "", "", 0xFF, "\xFF", false, [2]string{"", "\xFF"}},
		{"newline", "x\n", "a", 0x0A, "\n", true, [2]string{"x\na\n", ""}},
		{"newline alone", "", "", 0x0A, "\n", true, [2]string{"\n", ""}},
		{"carriage", "x\n", "a", 0x0D, "\n", true, [2]string{"x\na\n", ""}},
		{"carriage alone", "", "", 0x0D, "\n", true, [2]string{"\n", ""}},
		{"end", "x\n", "a", 0x04, "", true, [2]string{"x\na\x04", ""}},
		{"end alone", "", "", 0x04, "", true, [2]string{"\x04", ""}},
		{"the last but one", row(126, 1), "", 'a', "a", false, [2]string{row(126, 1), "a"}},
		{"the last", row(127, 1), "", 'a', "a", true, [2]string{row(127, 1) + "a", ""}},
		{"the last, of the line", "x\n", row(125, 1), 'a', "a", true, [2]string{"x\n" + row(125, 1) + "a", ""}},
		{"newline as the last", row(127, 1), "", 0x0A, "\n", true, [2]string{row(127, 1) + "\n", ""}},
		{"end as the last", row(127, 1), "", 0x04, "", true, [2]string{row(127, 1) + "\x04", ""}},
	} {
		t.Run(c.name, func(t *testing.T) {
			w := from(t, c.ready, c.line)
			wantType(t, w.c, c.key, c.echo, c.finished)
			wantState(t, w.c, c.behind[0], c.behind[1])
		})
	}
}

// All bytes but seven are taken as they are, each with itself as its echo.
func TestBytesTakenAsTheyAre(t *testing.T) {
	others := []byte{0, api.KeyEnd, api.KeyErase, 0x0A, 0x0D, api.KeyKill, api.KeyDelete}
	for b := range 256 {
		if strings.IndexByte(string(others), byte(b)) >= 0 {
			continue
		}
		w := from(t, "x\n", "a")
		wantType(t, w.c, byte(b), string([]byte{byte(b)}), false)
		wantState(t, w.c, "x\n", "a"+string([]byte{byte(b)}))
	}
}

// A line can be taken back to its beginning, and not beyond: what is finished stays.
func TestTakenBack(t *testing.T) {
	for _, ready := range []string{"", "x\n", "x", "\x04", row(100, 1)} {
		for _, n := range []int{1, 2, 27} {
			for _, keys := range []string{"\x08", "\x7F", "\x08\x7F", "\x15"} {
				w := from(t, ready, row(n, 9))
				for range n + 2 {
					w.doKeys(keys)
				}
				wantState(t, w.c, ready, "")
				w.doKeys("ok\n")
				w.doKeys(keys)
				wantState(t, w.c, ready+"ok\n", "")
			}
		}
	}
}
