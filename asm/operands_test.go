package asm_test

// Numbers, expressions, registers, places and texts.

import (
	"bytes"
	"fmt"
	"strings"
	"testing"

	"hartix/api"
	"hartix/insn"
)

// dwordOf gives the value of an expression by laying it down, some lines ahead of it.
func dwordOf(t *testing.T, ahead, sum string) uint64 {
	t.Helper()
	code := codeOf(t, ahead+"\n.dword "+sum)
	var n uint64
	for k := range 8 {
		n |= uint64(code[len(code)-8+k]) << (8 * k)
	}
	return n
}

func TestNumbers(t *testing.T) {
	for _, c := range []struct {
		text string
		want uint64
	}{
		{"0", 0}, {"7", 7}, {"10", 10}, {"18446744073709551615", 1<<64 - 1},
		{"0x0", 0}, {"0x00000000000000000000000001", 1}, {"0xfF", 255}, {"0xffffffffffffffff", 1<<64 - 1}, {"0xABCDEFabcdef0123", 0xABCDEFABCDEF0123},
		{"'a'", 'a'}, {"' '", 32}, {"'~'", 126}, {"'\"'", 34}, {"'0'", 48}, {`'\n'`, 10}, {`'\t'`, 9}, {`'\r'`, 13}, {`'\0'`, 0}, {`'\\'`, 92}, {`'\''`, 39},
	} {
		if got := dwordOf(t, "", c.text); got != c.want {
			t.Errorf("%s: %d", c.text, got)
		}
	}
	for _, text := range []string{
		"00", "01", "007", "0x", "0X1", "0xg", "0x1g", "1a", "1_0", "1.0", "1.", "0b1", "0o7", "1e3", "x", "0x_1", "+1", "18446744073709551616", "0x10000000000000000", "99999999999999999999999",
		"'''", `'\a'`, `'\x'`, `'\"'`, "'\x1f'", "'\x7f'", "'\x80'", `"a"`, "$1", "(1)", "1,", "",
	} {
		if text == "x" {
			checkRefused(t, ".dword "+text, 1, api.ErrAsmUnknown)
		} else {
			checkRefused(t, ".dword "+text, 1, api.ErrAsmForm)
		}
	}
}

func TestEveryCharacter(t *testing.T) {
	for b := range 256 {
		text := ".byte '" + string([]byte{byte(b)}) + "'"
		if b >= 32 && b <= 126 && b != '\'' && b != '\\' {
			if got := codeOf(t, text); len(got) != 1 || got[0] != byte(b) {
				t.Errorf("%q: % x", text, got)
			}
		} else {
			checkRefused(t, text, 1, api.ErrAsmForm)
		}
	}
}

func TestExpressions(t *testing.T) {
	ahead := ".equ c, 100\n.equ m, -1\nl: .zero 40\nk:"
	for _, c := range []struct {
		text string
		want uint64
	}{
		{"1+2", 3}, {"1 + 2", 3}, {"1+ 2 -\t3\r+4", 4}, {"-1", 1<<64 - 1}, {"- 1", 1<<64 - 1}, {"-1-1", 1<<64 - 2}, {"5-3-1", 1}, {"5-3+1", 3}, {"-5+7", 2},
		{"c", 100}, {"-c", 1<<64 - 100}, {"c-c", 0}, {"c+1", 101}, {"m", 1<<64 - 1}, {"m+m", 1<<64 - 2}, {"-m", 1},
		{"l", 0}, {"k", 40}, {"k-l", 40}, {"l-k", 1<<64 - 40}, {"k+k+c", 180}, {"later", 48}, {"later-k", 8}, {"end", 12345},
		{"'a'+1", 98}, {"'a'-'b'", 1<<64 - 1}, {"'+'-'-'", 1<<64 - 2}, {"'-'+'+'", 88}, {"' '+0x10", 48},
		{"0xffffffffffffffff+1", 0}, {"18446744073709551615+18446744073709551615", 1<<64 - 2}, {"-0x8000000000000000", 1 << 63}, {"0-1+1", 0},
		{"0" + strings.Repeat("+1", 5000), 5000}, {"0" + strings.Repeat(" - 1", 5000), 1<<64 - 5000},
	} {
		img := laid(t, ahead+"\n.dword "+c.text+"\nlater:\n.equ end, 12345")
		var got uint64
		for k := range 8 {
			got |= uint64(img.Code[40+k]) << (8 * k)
		}
		if got != c.want {
			t.Errorf("%.40s: %d, not %d", c.text, got, c.want)
		}
	}
	for _, text := range []string{"-", "+", "1+", "1-", "1++1", "1--1", "1+-1", "1-+1", "--1", "+1", "+c", "1 1", "c c", "1c", "c 1", "1*2", "1/2", "(1)", "(c)", "1+(2)", "~1", "!1", "1+ ", "- -1", "'a''b'", "'a'b", "c'a'", "c\"a\"", "c(sp)", "c:", strings.Repeat("n", 33), "1+" + strings.Repeat("n", 33)} {
		checkRefused(t, ".equ c, 1\n.dword "+text, 2, api.ErrAsmForm)
	}
	checkRefused(t, ".dword "+strings.Repeat("n", 32), 1, api.ErrAsmUnknown)
}

func TestRegisters(t *testing.T) {
	for r := range 32 {
		names := []string{insn.RegName(r), fmt.Sprint("x", r)}
		if r == 8 {
			names = append(names, "fp")
		}
		for _, name := range names {
			word := 0x33 | uint32(r)<<7 | uint32(r)<<15 | uint32(r)<<20
			want := []byte{byte(word), byte(word >> 8), byte(word >> 16), byte(word >> 24)}
			if got := codeOf(t, fmt.Sprintf("add %s, %s, %s", name, name, name)); !bytes.Equal(got, want) {
				t.Errorf("%s: % x", name, got)
			}
			sameCode(t, fmt.Sprintf("lw a0, 0(x%d)", r), fmt.Sprintf("lw a0, (%s)", name))
		}
	}
	for _, name := range []string{"q9", "x32", "x08", "x-", "A0", "X0", "s12", "t7", "a8", "pc", "_", ".", "a0.", "label", strings.Repeat("n", 32)} {
		reason := api.ErrAsmReg
		if name == "x-" {
			reason = api.ErrAsmForm
		}
		for _, form := range []string{"mv @, a0", "mv a0, @", "add a0, a1, @", "lw a0, 4(@)", "sd @, (sp)", "jr @", "li @, 1", "la @, 0", "csrrw a0, 1, @", "csrrwi @, 1, 1", "sfence.vma a0, @", "jalr a0, (@)", "lui @, 1", "jal @, 0", "beqz @, 0"} {
			checkRefused(t, "label: "+strings.ReplaceAll(form, "@", name), 1, reason)
		}
	}
	for _, name := range []string{"0", "10", "1a", "(a0)", "0(a0)", "a0+0", "-a0", "'a'", "\"a0\"", "a0 a1", "$a0", "%a0", strings.Repeat("n", 33)} {
		for _, form := range []string{"mv @, a0", "mv a0, @", "jr @", "li @, 1", "lw a0, (@)"} {
			checkRefused(t, strings.ReplaceAll(form, "@", name), 1, api.ErrAsmForm)
		}
	}
}

func TestPlaces(t *testing.T) {
	for _, c := range []struct{ place, plain string }{
		{"(sp)", "0(sp)"}, {"( sp )", "0(x2)"}, {"\t(\rsp\t)", "0(sp)"}, {"4(sp)", "4(sp)"}, {"4 ( sp )", "4(sp)"}, {"-4(sp)", "-4(sp)"}, {"- 4 (sp)", "-4(sp)"},
		{"c(sp)", "16(sp)"}, {"c+1(sp)", "17(sp)"}, {"-c - 1 ( sp )", "-17(sp)"}, {"'('(sp)", "40(sp)"}, {"')' - '(' (sp)", "1(sp)"}, {"-2048(sp)", "0xfffffffffffff800(sp)"},
	} {
		for _, form := range []string{"lb a0, @", "lhu a0, @", "ld a0, @", "sb a0, @", "sd a0, @", "jalr a0, @"} {
			sameCode(t, ".equ c, 16\n"+strings.ReplaceAll(form, "@", c.plain), ".equ c, 16\n"+strings.ReplaceAll(form, "@", c.place))
		}
	}
	for _, place := range []string{"sp", "4", "()", "( )", "4()", "4(sp", "4 sp)", "(sp)4", "4(sp)(sp)", "((sp))", "4((sp))", "4(sp))", "(4)", "4(4)", "-(sp)", "4+(sp)", "+4(sp)", "4(sp)+4", "4(-sp)", "4(sp,)", "4(sp a0)", "(s p)", "'('", "4[sp]", "\"\"(sp)", "1 1(sp)", "4(" + strings.Repeat("n", 33) + ")"} {
		for _, form := range []string{"lb a0, @", "sd a0, @", "jalr a0, @"} {
			checkRefused(t, strings.ReplaceAll(form, "@", place), 1, api.ErrAsmForm)
		}
	}
}

func TestTexts(t *testing.T) {
	for _, c := range []struct{ text, want string }{
		{`""`, ""}, {`"a"`, "a"}, {`" a b "`, " a b "}, {`"~ !"`, "~ !"}, {`"'"`, "'"}, {`"\n\t\r\0\\\""`, "\n\t\r\x00\\\""}, {`"\x00\xfF\x41"`, "\x00\xffA"}, {`"\x414"`, "A4"}, {`"\\n"`, `\n`}, {`"\\x41"`, `\x41`}, {`"\0\0"`, "\x00\x00"}, {`"\01"`, "\x001"},
	} {
		if got := string(codeOf(t, ".ascii "+c.text)); got != c.want {
			t.Errorf(".ascii %s: %q", c.text, got)
		}
		if got := string(codeOf(t, ".asciz "+c.text)); got != c.want+"\x00" {
			t.Errorf(".asciz %s: %q", c.text, got)
		}
	}
	for _, text := range []string{`a`, `'a'`, `1`, `"a"b`, `a"b"`, `"a""b"`, `"a" "b"`, `"a"+1`, `("a")`, `"\a"`, `"\'"`, `"\x"`, `"\x4"`, `"\x4g"`, `"\xg4"`, `"\X41"`, `"\x+4"`, `"\x 4"`, `"\x_4"`, `"\N"`, `"\1"`, "\"\t\"", "\"\x7f\"", "\"\x80\"", "\"\x1f\"", "\"ä\"", `"\u0041"`} {
		checkRefused(t, ".ascii "+text, 1, api.ErrAsmForm)
		checkRefused(t, ".asciz "+text, 1, api.ErrAsmForm)
	}
}

func TestEveryByteOfTexts(t *testing.T) {
	for b := range 256 {
		for _, digits := range []string{fmt.Sprintf("%02x", b), fmt.Sprintf("%02X", b)} {
			if got := codeOf(t, `.ascii "<\x`+digits+`>"`); string(got) != string([]byte{'<', byte(b), '>'}) {
				t.Errorf("%s: % x", digits, got)
			}
		}
		text := `.ascii "` + string([]byte{byte(b)}) + `"`
		if b >= 32 && b <= 126 && b != '"' && b != '\\' {
			if got := codeOf(t, text); len(got) != 1 || got[0] != byte(b) {
				t.Errorf("%q: % x", text, got)
			}
		} else if b != '\n' {
			checkRefused(t, text, 1, api.ErrAsmForm)
		}
	}
}

// Each statement with too few and too many operands, and with one of another kind.
func TestNumbersOfOperands(t *testing.T) {
	good := map[byte]string{'n': "name", 'r': "a0", 'e': "0", 'c': "0", 'p': "0(a0)", 't': `"a"`}
	for _, word := range allWords() {
		kinds, _, _ := kindsOf(word)
		many := strings.HasSuffix(kinds, "+")
		kinds = strings.TrimSuffix(kinds, "+")
		var operands []string
		for k := range kinds {
			operands = append(operands, good[kinds[k]])
		}
		text := func(list []string) string { return strings.TrimSpace(word + " " + strings.Join(list, ", ")) }
		laid(t, text(operands))
		if len(operands) > 0 {
			checkRefused(t, text(operands[:len(operands)-1]), 1, api.ErrAsmForm)
			checkRefused(t, word, 1, api.ErrAsmForm)
		}
		for _, one := range good {
			more := append(operands[:len(operands):len(operands)], one)
			if !many {
				checkRefused(t, text(more), 1, api.ErrAsmForm)
			}
			for k := range operands {
				other := append([]string(nil), operands...)
				other[k] = one
				checkText(t, text(other))
			}
		}
	}
}

// allWords: instructions, short forms, directives.
func allWords() []string {
	var words []string
	for op := 1; op < api.Ops; op++ {
		words = append(words, insn.Name(op))
	}
	for _, row := range strings.Split(shortTable, "\n") {
		words = append(words, strings.Split(row, "|")[0])
	}
	return append(words, ".text", ".data", ".bss", ".equ", ".byte", ".half", ".word", ".dword", ".ascii", ".asciz", ".zero", ".align")
}
