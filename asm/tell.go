package asm

import (
	"strconv"
	"strings"

	"hartix/insn"
)

// Tell writes instruction words as text (P6.4).
func Tell(code []byte) string {
	var text strings.Builder
	at := 0
	for ; len(code)-at >= wordSize; at += wordSize {
		text.WriteString(tellWord(number(code[at:at+wordSize]), uint64(at)))
		text.WriteByte('\n')
	}
	for _, b := range code[at:] {
		text.WriteString(".byte 0x" + hex(uint64(b), 2) + "\n")
	}
	return text.String()
}

func tellWord(word, at uint64) string {
	i, err := insn.Decode(uint32(word))
	f := formOf(i.Op)
	// A form without operands has one word; a fence with other fields has none that could be told.
	if err != nil || len(f.parts) == 0 && i != f.base {
		return ".word 0x" + hex(word, 2*wordSize)
	}
	var operands []string
	for _, p := range f.parts {
		operands = append(operands, p.slot().tell(i, at))
	}
	return strings.TrimSuffix(insn.Name(i.Op)+" "+strings.Join(operands, ", "), " ")
}

func hex(n uint64, digits int) string {
	s := strconv.FormatUint(n, 16)
	return strings.Repeat("0", digits-len(s)) + s
}

// number reads bytes, the low one first.
func number(b []byte) uint64 {
	var n uint64
	for k := len(b) - 1; k >= 0; k-- {
		n = n<<8 | uint64(b[k])
	}
	return n
}

// lowFirst gives the lowest so many bytes of a number.
func lowFirst(n uint64, size int) []byte {
	var b []byte
	for range size {
		b = append(b, byte(n))
		n >>= 8
	}
	return b
}
