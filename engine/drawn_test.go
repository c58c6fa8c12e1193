package engine_test

// Drawn texts: lines that are right, with something turned here and there.

import (
	"errors"
	"fmt"
	"strings"
	"testing"

	"hartix/api"
	"hartix/engine"
)

func drawnNumber(s *scatter) string {
	switch s.below(12) {
	case 0:
		return pick(s, "0", "2147483647", "2147483646", "1", "4096", "4095", "4097")
	case 1:
		return fmt.Sprint(s.below(1 << 31))
	case 2:
		return pick(s, "01", "-1", "2147483648", "x", "", `"7"`, "99999999999999999999", "+1", "-0", "00")
	}
	return fmt.Sprint(s.below(60))
}

func drawnShort(s *scatter) string {
	if s.below(3) == 0 {
		return pick(s, "-1", "-32768", "32767", "32768", "-32769", "-0", "0", "--1", `"-1"`)
	}
	return fmt.Sprint(s.below(100))
}

func drawnWord(s *scatter) string {
	switch s.below(8) {
	case 0, 1, 2:
		return pick(s, "/a", "/f", "x", "end", "a\\n", "\xff", "é")
	case 3:
		return pick(s, `"`, `"a`, `"\q"`, `"\x1"`, `"a"b`, `""""`, `"\`, `#`)
	}
	return quoted(drawnBytes(s, 8))
}

func drawnHex(s *scatter) string {
	var b strings.Builder
	for range s.below(4) {
		fmt.Fprintf(&b, pick(s, "%02x", "%02X", "%02x ", "%02x#", "%02x\t"), s.below(256))
	}
	if s.below(40) == 0 {
		b.WriteString(pick(s, "0", "g", `"00"`, "end", `"`, "end \""))
	}
	return b.String()
}

func drawnBlockEnd(s *scatter) string {
	return pick(s, "end", "end", "end", "end", "end", "end", " end\t", "end\r", "end # x", "end#", "\"end\"", "End", "")
}

func drawnLine(s *scatter) string {
	switch s.below(16) {
	case 0:
		return "frames " + drawnNumber(s)
	case 1:
		return "budget " + drawnNumber(s)
	case 2:
		return "init " + drawnWord(s)
	case 3:
		return "dir " + drawnWord(s)
	case 4:
		return "dev " + drawnWord(s) + " " + drawnShort(s) + " " + drawnShort(s)
	case 5, 6:
		return "text " + drawnWord(s) + pick(s, " ", "\t", "") + drawnWord(s)
	case 7, 8:
		lines := []string{"bytes " + drawnWord(s)}
		for range s.below(4) {
			lines = append(lines, drawnHex(s))
		}
		return strings.Join(append(lines, drawnBlockEnd(s)), "\n")
	case 9, 10:
		lines := []string{"asm " + drawnWord(s)}
		for range s.below(5) {
			lines = append(lines, pick(s, "nop", "ecall", "l: j l", "foo", "", "# \"", ".data", "end: nop", ".word 1", "li a0, 99999", "nop", "nop"))
		}
		return strings.Join(append(lines, drawnBlockEnd(s)), "\n")
	case 11:
		line := "tick"
		for range s.below(20) {
			line += " " + drawnNumber(s)
		}
		return line
	case 12:
		return "every " + drawnNumber(s) + " " + drawnNumber(s) + " " + drawnNumber(s)
	case 13, 14:
		return "input " + drawnNumber(s) + " " + drawnWord(s)
	}
	return pick(s, "", "", " ", "# x", "#\"", "\t\r", "none", "end", "\"frames\" 1", "frames", "tick")
}

// turned gives a text with some bytes turned, taken away or put in.
func turned(s *scatter, text string) string {
	b := []byte(text)
	for range s.below(4) {
		at := s.below(len(b) + 1)
		c := pick(s, byte(s.next()), '"', '\\', '#', ' ', '\n', '0', 'e')
		switch {
		case at == len(b) || s.below(3) == 0:
			b = append(b[:at:at], append([]byte{c}, b[at:]...)...)
		case s.below(2) == 0:
			b = append(b[:at:at], b[at+1:]...)
		default:
			b[at] = c
		}
	}
	return string(b)
}

func drawnText(s *scatter) string {
	var lines []string
	for range s.below(9) {
		lines = append(lines, drawnLine(s))
	}
	for _, setting := range []string{"frames 64", "budget 20", "init /a"} {
		if s.below(40) > 0 {
			at := s.below(len(lines) + 1)
			lines = append(lines[:at:at], append([]string{setting}, lines[at:]...)...)
		}
	}
	text := strings.Join(lines, "\n") + pick(s, "", "\n", "\r\n", "\n\n")
	if s.below(4) == 0 {
		text = turned(s, text)
	}
	return text
}

// TestDrawnTexts holds Parse, Print and Tell of drawn texts against the chapter (P18.1 to P18.5).
func TestDrawnTexts(t *testing.T) {
	s := scatter(18)
	reasons := map[api.Errno]int{}
	taken := 0
	for range 20000 {
		text := drawnText(&s)
		script, err := checkParse(t, text)
		if err != nil {
			var reason api.Errno
			if !errors.As(err, &reason) {
				t.Fatal(err)
			}
			reasons[reason]++
			continue
		}
		taken++
		if printed, err := checkPrint(t, script); err != nil {
			t.Fatalf("Print of Parse of %s: %v", shown(text), err)
		} else if !backFromText(t, script) || engine.Tell(printed) != checkTell(t, text) {
			t.Fatalf("%s is not told as %s is", shown(text), shown(printed))
		}
	}
	for _, reason := range []api.Errno{api.ErrEngineWord, api.ErrEngineLine, api.ErrEngineTwice, api.ErrEngineMany, api.ErrEngineEnd, api.ErrAsmName, api.ErrElfSegs, api.ErrElfEntry} {
		if reasons[reason] < 2 {
			t.Errorf("errno %d came %d times", reason, reasons[reason])
		}
	}
	if taken < 1000 {
		t.Errorf("%d were taken", taken)
	}
}

// TestDrawnJunk gives Parse and Tell what is hardly a text.
func TestDrawnJunk(t *testing.T) {
	s := scatter(19)
	for range 20000 {
		var b []byte
		for range s.below(60) {
			b = append(b, pick(&s, byte(s.next()), ' ', '\n', '"', '\\', '#', 'x', 'f', '0', '1'))
		}
		if s.below(2) == 0 {
			b = append([]byte(settings), b...)
		}
		checkTell(t, string(b))
	}
}
