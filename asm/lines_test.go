package asm_test

// How a text falls into lines, and a line into labels, word and operands.

import (
	"bytes"
	"strings"
	"testing"

	"hartix/api"
	"hartix/asm"
)

// codeOf gives the code of a text that must be one.
func codeOf(t *testing.T, text string) []byte {
	t.Helper()
	return laid(t, text).Code
}

// sameCode: the texts are laid down alike.
func sameCode(t *testing.T, want string, texts ...string) {
	t.Helper()
	for _, text := range texts {
		if got, want := codeOf(t, text), codeOf(t, want); !bytes.Equal(got, want) {
			t.Errorf("%q: % x, not % x", text, got, want)
		}
	}
}

func TestTextsWithoutAnything(t *testing.T) {
	for _, text := range []string{"", "\n", "\n\n\n", " ", "\t\r \n", "#", "# \x00\xff\"'", "\n#\n", ".text", ".bss\n.data\n"} {
		img := laid(t, text)
		if img.Code != nil || img.Data != nil || img.Symbols != nil || img.DataAt != 0 || img.BssAt != 0 || img.Bss != 0 || img.Entry != 0 {
			t.Errorf("%q: %+v", text, img)
		}
	}
}

func TestLinesAreCounted(t *testing.T) {
	for n := 1; n < 40; n++ {
		checkRefused(t, strings.Repeat("nop\n", n-1)+"foo", n, api.ErrAsmName)
		checkRefused(t, strings.Repeat("\n", n-1)+"foo\n", n, api.ErrAsmName)
		checkRefused(t, strings.Repeat("# foo \r\n", n-1)+"j b\n\nnop\n", n, api.ErrAsmUnknown)
	}
}

func TestBlanks(t *testing.T) {
	sameCode(t, "add a0, a1, a2\nlw a0, 4(sp)",
		"add a0,a1,a2\nlw a0,4(sp)",
		"add a0, a1, a2\r\nlw a0, 4(sp)\r\n",
		"\t add\ta0 ,\ta1\r,  a2 \t\n \rlw\ra0\r,\r4\r(\rsp\r)\r",
		"  add   a0  ,  a1  ,  a2  \n  lw   a0  ,  4  (  sp  )  ",
		"add a0, a1, a2#\nlw a0, 4(sp)# # \"",
		"add a0, a1, a2 # it's \"so\nlw a0, 4(sp)\n#'")
	for _, b := range "\v\f\x00\x1f\x7f;" {
		checkRefused(t, string(b)+"nop", 1, api.ErrAsmForm)
		checkRefused(t, "nop"+string(b), 1, api.ErrAsmForm)
		checkRefused(t, "mv a0,"+string(b)+"a1", 1, api.ErrAsmForm)
		checkRefused(t, "li a0, 1"+string(b)+"+ 1", 1, api.ErrAsmForm)
	}
	for _, text := range []string{"mv a0, a 1", "m v a0, a1", "li a0, 1 2", "li a0, 0 x1", "lw a0, 4(s p)", ".equ a b, 1", ".ascii \"a\" \"b\""} {
		if _, reason := checkText(t, text); reason == api.OK {
			t.Errorf("%q is taken", text)
		}
	}
}

func TestLabels(t *testing.T) {
	for _, c := range []struct {
		text  string
		names string
	}{
		{"a:", "a"},
		{"a: b: c:", "a b c"},
		{"c:b:a:nop", "a b c"},
		{"\t\ra:\r\tb: \t nop", "a b"},
		{"_: .: A: z: _9.: .a0:", ". .a0 A _ _9. z"},
		{"nop: nop", "nop"},
		{".text: li: a0: zero: .data", ".text a0 li zero"},
		{"a: # b:", "a"},
		{"a:#b:", "a"},
		{strings.Repeat("n", 32) + ": nop", strings.Repeat("n", 32)},
	} {
		var names []string
		for _, s := range laid(t, c.text).Symbols {
			names = append(names, s.Name)
		}
		if got := strings.Join(names, " "); got != c.names {
			t.Errorf("%q: %q", c.text, got)
		}
	}
	for _, text := range []string{":", "a::", "a: :", "1:", "1a: nop", "a-b: nop", "\"a\": nop", "'a': nop", "a,b: nop", "ä: nop", "a\x00:", strings.Repeat("n", 33) + ": nop", strings.Repeat("n", 33) + ":", "a:1", "a: 1: nop", "$:"} {
		checkRefused(t, text, 1, api.ErrAsmForm)
	}
	checkRefused(t, "a : b: nop", 1, api.ErrAsmName)
	checkRefused(t, "nop : nop", 1, api.ErrAsmForm)
}

func TestWords(t *testing.T) {
	for _, text := range []string{"1nop", "9", "-", "(", ",", ", a0", "\"nop\"", "'n'", "nop,", "nop(", "nop-", "nop\"\"", "nop'a'", "foo\"\"", "foo(", "$", "mv,a0", "nöp", "\xffnop", "a: 0"} {
		checkRefused(t, text, 1, api.ErrAsmForm)
	}
	for _, text := range []string{"foo", "NOP", "Nop", "nop.", ".nop", "_", ".", ".Text", ".texts", "nopnop", "foo 1 1 1", "foo '\\''", "foo '''", "addi.w a0", "x0", strings.Repeat("n", 33), strings.Repeat("n", 33) + " a0", "foo '\xff'", "foo :"} {
		checkRefused(t, text, 1, api.ErrAsmName)
	}
}

func TestOperandsOfNoByte(t *testing.T) {
	for _, text := range []string{"nop ,", "mv a0,", "mv ,a0", "mv a0,,a1", "mv a0, , a1", "mv a0, a1,", "mv a0, a1, ", ".byte 1,", ".byte ,", "foo ,", "foo a,,b", "foo a, #b", "foo ,#"} {
		checkRefused(t, text, 1, api.ErrAsmForm)
	}
	sameCode(t, "nop", "nop ", "nop \t\r", "nop #", "nop#,", "nop # ,")
}

func TestQuotedPieces(t *testing.T) {
	for _, c := range []struct{ text, want string }{
		{`.ascii "#"`, "#"},
		{`.ascii ","`, ","},
		{`.ascii "a,b#c'd" # "e`, "a,b#c'd"},
		{`.ascii "\\"#"`, `\`},
		{`.ascii "\"#,"`, `"#,`},
		{`.ascii ""`, ""},
		{`.byte '#'`, "#"},
		{`.byte ',',','`, ",,"},
		{`.byte '"', '"'#"`, `""`},
		{`.byte '\'', '\'' # '`, "''"},
		{`.byte '\\', ' '`, `\ `},
		{`.byte '\\','#','\\'`, `\#\`},
		{".byte '('+1", ")"},
	} {
		if got := string(codeOf(t, c.text)); got != c.want {
			t.Errorf("%s: %q", c.text, got)
		}
	}
	for _, text := range []string{`foo "`, `foo '`, `foo 'a`, `foo ''`, `foo 'ab'`, `foo '\'`, `foo '\a`, `foo '\ab'`, `foo "\"`, `foo "a\`, `foo "a" "`, `foo '"`, `foo '''' `, `foo "'" '`, "foo \"\n\"", "foo '\n'", `foo '#`, `foo "#`, `"`, `'`, `'a`, `a: "`, `foo 'ä'`} {
		checkRefused(t, text, 1, api.ErrAsmForm)
	}
	for _, text := range []string{`foo "a'"`, `foo '"'`, `foo '''`, `foo '\\'`, `foo '\''`, `foo "\""`, `foo "\x"`, `foo "a" 'b' "c"`, `foo '''''' `, "foo '\t'", "foo \"\x00\xff\"", `foo "\\"`, `foo """"`, `foo # "`} {
		checkRefused(t, text, 1, api.ErrAsmName)
	}
}

// Labels, remarks and blanks turn nothing but the symbols (P6.5).
func TestLabelsRemarksAndBlanksTurnNothing(t *testing.T) {
	plain := "li a0, 0x12345\nadd a1, a0, sp\nlw a2, -4(a1)\nbeqz a2, 8\n.byte 1, 2, 'c', 4\n.data\n.asciz \"a b#c\"\n.align 3\n.bss\n.zero 7"
	want := laid(t, plain)
	for k, line := range strings.Split(plain, "\n") {
		for _, other := range []string{"new:" + line, " \t" + line, line + " \r", line + "#new: nop", line + " # \"", "_x: .y: " + line, strings.ReplaceAll(line, ", ", " ,\t "), "\n" + line, "#\n" + line, line + "\nnew:"} {
			text := strings.Split(plain, "\n")
			text[k] = other
			got := laid(t, strings.Join(text, "\n"))
			got.Symbols = nil
			if !bytes.Equal(got.Code, want.Code) || !bytes.Equal(got.Data, want.Data) || got.DataAt != want.DataAt || got.BssAt != want.BssAt || got.Bss != want.Bss || got.Entry != want.Entry {
				t.Errorf("%q: %+v, not %+v", other, got, want)
			}
		}
	}
}

func TestTextsOfAnyBytes(t *testing.T) {
	for b := range 256 {
		for _, form := range []string{"@nop", "nop@", "nop @", "mv a0@a1", "mv a0, a1@", "a@: nop", "li a0, 1@1", "li a0, '@'", "li a0, '\\@'", ".ascii \"@\"", ".ascii \"\\@\"", ".ascii \"\\x4@\"", "#@", "lw a0, 1@(sp)", "lw a0, 1(sp@)", "a: j @", "@"} {
			checkText(t, strings.ReplaceAll(form, "@", string([]byte{byte(b)})))
		}
	}
}

func TestTooLongAText(t *testing.T) {
	full := strings.Repeat("#", api.MaxAsm)
	laid(t, full)
	for _, text := range []string{full + "#", full + "\n", strings.Repeat("\n", api.MaxAsm+1), "foo\n" + full, strings.Repeat(full, 3)} {
		if img, err := asm.Assemble(text); img.Code != nil {
			t.Errorf("%+v", img)
		} else {
			checkFault(t, text[:20], err, 0, api.ErrAsmLong)
		}
	}
	checkRefused(t, strings.Repeat("\n", api.MaxAsm-1)+"!", api.MaxAsm, api.ErrAsmForm)
}
