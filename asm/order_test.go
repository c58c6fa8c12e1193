package asm_test

// Of several faults the first one holds: within a line by the chapter's list, of lines the earlier, of passes the first.

import (
	"fmt"
	"strings"
	"testing"

	"hartix/api"
)

// faultyLines have one fault each; the symbol `twice` is there ahead of them.
var faultyLines = []struct {
	text   string
	reason api.Errno
	second bool // told by the second pass
}{
	{`"`, api.ErrAsmForm, false},
	{"1:", api.ErrAsmForm, false},
	{"nop,", api.ErrAsmForm, false},
	{"foo", api.ErrAsmName, false},
	{"nop 1", api.ErrAsmForm, false},
	{"mv a0, 1", api.ErrAsmForm, false},
	{"mv a0, q9", api.ErrAsmReg, false},
	{"twice:", api.ErrAsmSymbol, false},
	{".equ twice, 1", api.ErrAsmSymbol, false},
	{".zero nosuch", api.ErrAsmConstant, false},
	{".zero 65537", api.ErrAsmRange, false},
	{".align 13", api.ErrAsmRange, false},
	{".bss\n.byte 1", api.ErrAsmSection, false},
	{".data\nnop", api.ErrAsmSection, false},
	{".bss\n.zero 65536\n.zero 1", api.ErrAsmLong, false},
	{"j nosuch", api.ErrAsmUnknown, true},
	{".byte nosuch", api.ErrAsmUnknown, true},
	{".byte 256", api.ErrAsmRange, true},
	{"addi a0, a0, 2048", api.ErrAsmRange, true},
	{"j 1", api.ErrAsmRange, true},
}

func TestOrderOfLines(t *testing.T) {
	for _, a := range faultyLines {
		aAt := 2 + strings.Count(a.text, "\n")
		checkRefused(t, "twice:\n"+a.text+"\n.text\nl:", aAt, a.reason)
		for _, b := range faultyLines {
			text := "twice:\n" + a.text + "\n.text\n.align 2\n" + b.text
			at, reason := aAt, a.reason
			if a.second && !b.second {
				at, reason = aAt+3+strings.Count(b.text, "\n"), b.reason
			}
			checkRefused(t, text, at, reason)
		}
	}
}

// Lines with two faults: that of the earlier place in the list is told.
func TestOrderWithinALine(t *testing.T) {
	for _, c := range []struct {
		ahead, line string
		reason      api.Errno
	}{
		// What can't be cut, ahead of the word.
		{"", "foo ,", api.ErrAsmForm}, {"", `foo "`, api.ErrAsmForm}, {"", "1: foo", api.ErrAsmForm}, {"", "foo, a0", api.ErrAsmForm}, {"twice:", "twice: foo '", api.ErrAsmForm},
		// The word, ahead of its operands, and of the labels.
		{"", "foo 1 2", api.ErrAsmName}, {"", "foo q9", api.ErrAsmName}, {"twice:", "twice: foo", api.ErrAsmName}, {".data", "foo", api.ErrAsmName},
		// Forms, ahead of registers.
		{"", "add q9, a0", api.ErrAsmForm}, {"", "add q9, a0, 1", api.ErrAsmForm}, {"", "addi q9, a0, )", api.ErrAsmForm}, {"", "lw q9, 4", api.ErrAsmForm}, {"", "lw q9, 4(1)", api.ErrAsmForm}, {"twice:", "twice: add a0, a1", api.ErrAsmForm}, {"", ".equ 1, nosuch", api.ErrAsmForm}, {".bss", ".byte", api.ErrAsmForm},
		// Registers, ahead of symbols.
		{"twice:", "twice: mv a0, q9", api.ErrAsmReg}, {"", "li q9, nosuch", api.ErrAsmReg}, {".data", "mv a0, q9", api.ErrAsmReg}, {".byte 1", "mv a0, q9", api.ErrAsmReg}, {"", "addi q9, a0, 9999", api.ErrAsmReg}, {"", "addi q9, a0, nosuch", api.ErrAsmReg}, {"", "lw a0, 9999(q9)", api.ErrAsmReg}, {".zero 65536", "mv a0, q9", api.ErrAsmReg},
		// Symbols, ahead of constants.
		{"twice:", ".equ twice, nosuch", api.ErrAsmSymbol}, {"twice:", "twice: .equ a, nosuch", api.ErrAsmSymbol}, {"twice:", "twice: li a0, nosuch", api.ErrAsmSymbol}, {"twice:", "twice: .zero 65537", api.ErrAsmSymbol}, {"twice: .data", "twice: nop", api.ErrAsmSymbol}, {"twice: .zero 65536", "twice: nop", api.ErrAsmSymbol}, {"", "a: .equ a, a", api.ErrAsmSymbol}, {"twice:", "twice: j nosuch", api.ErrAsmSymbol},
		// Constants, ahead of ranges.
		{"", ".zero 65537 + nosuch", api.ErrAsmConstant}, {"", ".align nosuch - 1", api.ErrAsmConstant}, {".data", "li a0, nosuch", api.ErrAsmConstant}, {".byte 1", "li a0, nosuch", api.ErrAsmConstant}, {".zero 65536", "li a0, nosuch", api.ErrAsmConstant}, {".zero 65536", ".zero nosuch", api.ErrAsmConstant},
		// Ranges of .zero and .align, ahead of lengths.
		{".zero 65536", ".zero 65537", api.ErrAsmRange}, {".zero 65535", ".align 13", api.ErrAsmRange},
		// Sections, ahead of lengths.
		{".data\n.zero 65536", "nop", api.ErrAsmSection}, {".zero 65535", "nop", api.ErrAsmSection}, {".bss\n.zero 65536", ".byte 1", api.ErrAsmSection},
		// All of the first pass, ahead of the second.
		{".bss", ".byte 256", api.ErrAsmSection}, {".data", "j nosuch", api.ErrAsmSection}, {".zero 65536", "j nosuch", api.ErrAsmLong}, {".zero 65536", ".byte 256", api.ErrAsmLong},
		// Symbols that there are not, ahead of ranges.
		{"", ".byte 256, nosuch", api.ErrAsmUnknown}, {"", ".byte 256, 1, 1 + nosuch", api.ErrAsmUnknown}, {"", "csrrwi a0, 4096, nosuch", api.ErrAsmUnknown}, {"", "csrrwi a0, nosuch, 32", api.ErrAsmUnknown}, {"", ".byte nosuch, 256", api.ErrAsmUnknown}, {"", "addi a0, a0, 9999 + nosuch", api.ErrAsmUnknown},
	} {
		text := c.ahead + "\n" + c.line
		at := 2 + strings.Count(c.ahead, "\n")
		checkRefused(t, text, at, c.reason)
		if c.reason == api.ErrAsmUnknown {
			checkRefused(t, text+"\nfoo", at+1, api.ErrAsmName)
		} else {
			checkRefused(t, text+"\nfoo", at, c.reason)
		}
	}
}

func TestSymbolsFullWithinALine(t *testing.T) {
	var full strings.Builder
	for k := range api.MaxSymbols {
		fmt.Fprintf(&full, "s%d:", k)
	}
	for _, c := range []struct {
		line   string
		reason api.Errno
	}{
		{"x: mv a0, q9", api.ErrAsmReg}, {"x: foo", api.ErrAsmName}, {"x: .equ y, nosuch", api.ErrAsmSymbol}, {".equ x, nosuch", api.ErrAsmSymbol}, {"x: .zero 65537", api.ErrAsmSymbol}, {".zero nosuch", api.ErrAsmConstant},
	} {
		checkRefused(t, full.String()+"\n"+c.line, 2, c.reason)
	}
}
