package asm_test

// Texts that are drawn: most lines are right, some have a fault, some are garbled; held against the chapter's second reading.

import (
	"fmt"
	"reflect"
	"strings"
	"testing"

	"hartix/api"
	"hartix/asm"
)

func drawnName(s *scatter) string {
	return pick(s, "a", "b", "loop", "_start", ".L1", "end", "k", "A_9", "x", "a0", "long_name_long_name_long_name_32", "long_name_long_name_long_name__33")
}

func drawnNumber(s *scatter) string {
	switch s.below(8) {
	case 0:
		return pick(s, "'a'", "' '", `'\n'`, `'\''`, `','`, `'#'`, `'"'`, `'('`)
	case 1:
		return fmt.Sprintf("%#x", s.next()>>s.below(64))
	case 2:
		return fmt.Sprint(s.next() >> s.below(64))
	case 3:
		return pick(s, "2047", "2048", "4095", "4096", "63", "64", "31", "32", "255", "256", "65535", "65536", "1048575", "1048576", "524288", "12", "13", "0xffffffffffffffff")
	}
	return fmt.Sprint(s.below(40))
}

func drawnSum(s *scatter, names bool) string {
	var b strings.Builder
	if s.below(5) == 0 {
		b.WriteString("-" + drawnBlanks(s))
	}
	for {
		if names && s.below(3) == 0 {
			b.WriteString(drawnName(s))
		} else {
			b.WriteString(drawnNumber(s))
		}
		if s.below(4) > 0 {
			return b.String()
		}
		b.WriteString(drawnBlanks(s) + pick(s, "+", "-") + drawnBlanks(s))
	}
}

func drawnBlanks(s *scatter) string { return pick(s, "", "", "", " ", "\t", "\r", "  ") }

func drawnRegister(s *scatter) string {
	if s.below(60) == 0 {
		return pick(s, "q9", "x32", "a", "1", "(a0)", "fp2", "")
	}
	return pick(s, "a0", "a1", "zero", "sp", "ra", "t1", "fp", "x31", "s11", "x7")
}

func drawnText(s *scatter) string {
	var b strings.Builder
	for range s.below(6) {
		b.WriteString(pick(s, "a", " ", "#", ",", "'", `\n`, `\0`, `\\`, `\"`, `\x41`, `\xfF`, "zz"))
	}
	if s.below(30) == 0 {
		b.WriteString(pick(s, `\`, `\x4`, `\q`, "\x01", `"`))
	}
	return `"` + b.String() + `"`
}

func drawnOperand(s *scatter, kind byte) string {
	if s.below(80) == 0 {
		kind = pick(s, byte('n'), 'r', 'e', 'p', 't')
	}
	switch kind {
	case 'n':
		return drawnName(s)
	case 'r':
		return drawnRegister(s)
	case 'p':
		return pick(s, "", drawnSum(s, s.below(8) == 0), fmt.Sprint(s.below(2048))) + drawnBlanks(s) + "(" + drawnBlanks(s) + drawnRegister(s) + drawnBlanks(s) + ")"
	case 't':
		return drawnText(s)
	case 'c':
		if s.below(2) == 0 {
			return fmt.Sprint(s.below(13))
		}
	}
	return drawnSum(s, s.below(3) > 0)
}

func drawnStatement(s *scatter, words []string) string {
	word := pick(s, words...)
	kinds, _, ok := kindsOf(word)
	if !ok || s.below(100) == 0 {
		return pick(s, "foo", "NOP", word+".", "foo 'x'", "foo (", "foo #")
	}
	if strings.HasSuffix(kinds, "+") {
		kinds = strings.Repeat("e", 1+s.below(4))
	}
	if s.below(80) == 0 {
		kinds += pick(s, "e", "r")
	}
	var operands []string
	for k := range kinds {
		operands = append(operands, drawnOperand(s, kinds[k]))
	}
	return word + pick(s, " ", "\t", "  ") + strings.Join(operands, drawnBlanks(s)+","+drawnBlanks(s))
}

// drawnLine gives a line; n tells it apart from others, so that labels are mostly new.
func drawnLine(s *scatter, words []string, n int) string {
	line := drawnBlanks(s)
	switch s.below(12) {
	case 0:
		line += drawnName(s) + ":" + drawnBlanks(s)
	case 1, 2:
		line += fmt.Sprintf("n%d:", n) + drawnBlanks(s)
	}
	if s.below(8) > 0 {
		line += drawnStatement(s, words)
	}
	if s.below(6) == 0 {
		line += drawnBlanks(s) + "#" + pick(s, "", " remark", `"`, "'", " a: nop, #")
	}
	return line
}

// garbled turns a byte of a text, or takes one away, or puts one in.
func garbled(s *scatter, text string) string {
	at := s.below(len(text) + 1)
	one := string([]byte{pick(s, byte('"'), '\'', '\\', '#', ',', ':', '(', ')', '-', '+', ' ', '\n', '0', 'a', '.', 0, 0xff, byte(s.next()>>9))})
	switch {
	case at == len(text) || s.below(3) == 0:
		return text[:at] + one + text[at:]
	case s.below(2) == 0:
		return text[:at] + text[at+1:]
	}
	return text[:at] + one + text[at+1:]
}

func drawnTextOf(s *scatter, words []string, lines int) string {
	var b strings.Builder
	if s.below(2) == 0 {
		b.WriteString(".equ k, " + fmt.Sprint(s.below(20)) + "\na: _start: end: .L1: loop:\n")
	}
	for n := range lines {
		b.WriteString(drawnLine(s, words, n) + pick(s, "\n", "\n", "\n", "\r\n"))
	}
	return b.String()
}

// codeWords: each instruction and short form, and data whose length keeps instructions in their places.
func codeWords() []string {
	words := allWords()
	for k, w := range words {
		if strings.HasPrefix(w, ".") && w != ".word" && w != ".dword" && w != ".equ" && w != ".text" {
			words[k] = ".word"
		}
	}
	return append(words, "li", "la", "call", "j", "beqz", "lw", "sd", "jalr", "csrrwi")
}

func TestDrawnTexts(t *testing.T) {
	s := scatter(64)
	outcomes := map[api.Errno]int{}
	bytes := 0
	for k := range 15000 {
		words := codeWords()
		if k%3 == 0 {
			words = []string{".byte", ".half", ".word", ".dword", ".ascii", ".asciz", ".zero", ".align", ".equ", ".text", ".data", ".bss", "nop"}
		}
		text := drawnTextOf(&s, words, 1+s.below(6))
		if s.below(6) == 0 {
			text = garbled(&s, text)
		}
		img, reason := checkText(t, text)
		outcomes[reason]++
		bytes += len(img.Code) + len(img.Data)
	}
	for reason := api.ErrAsmForm; reason <= api.ErrAsmUnknown; reason++ {
		if outcomes[reason] < 40 {
			t.Errorf("reason %d came %d times", reason, outcomes[reason])
		}
	}
	if outcomes[api.OK] < 3000 || bytes < 50000 {
		t.Errorf("%d texts were taken, with %d bytes", outcomes[api.OK], bytes)
	}
}

// Single lines, garbled many times: nothing breaks, and each is refused for what the chapter says.
func TestGarbledLines(t *testing.T) {
	s := scatter(65)
	for _, line := range []string{
		`_start: l2: li a0, 'a' + 0x1F - k # remark "x`, "lw a0, -4 + k ( sp )", `.asciz "a\n\x41\"#, 'b"`, ".byte 'a', '\\'', ',', 255", "addi a0, a0, -2048", ".equ name, k + 1", ".bss", "csrrwi a0, 0xc01, 31", "beq a0, a1, here", "la a0, here + 4",
	} {
		for range 1500 {
			text := line
			for range 1 + s.below(3) {
				text = garbled(&s, text)
			}
			checkText(t, ".equ k, 3\nhere:\n"+text)
		}
	}
}

// The answer hangs on the text alone, whatever was asked before.
func TestTextsAreToldAlike(t *testing.T) {
	s := scatter(66)
	for range 300 {
		text := drawnTextOf(&s, codeWords(), 8)
		a, errA := asm.Assemble(text)
		asm.Assemble(garbled(&s, text))
		b, errB := asm.Assemble(text)
		if !reflect.DeepEqual(a, b) || !reflect.DeepEqual(errA, errB) {
			t.Fatalf("%q: %+v, %v, then %+v, %v", text, a, errA, b, errB)
		}
	}
}
