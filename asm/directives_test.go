package asm_test

// Sections, constants, data; the image's addresses and symbols.

import (
	"bytes"
	"fmt"
	"reflect"
	"sort"
	"strings"
	"testing"

	"hartix/api"
	"hartix/asm"
)

func TestSections(t *testing.T) {
	img := laid(t, `.byte 1
.data
.byte 2
.bss
.zero 3
.text
.byte 4
.bss
.zero 5
.data
.byte 6
.data
.text
.text
.byte 7`)
	want := api.Image{Code: []byte{1, 4, 7}, Data: []byte{2, 6}, DataAt: 4096, BssAt: 4112, Bss: 8}
	if !reflect.DeepEqual(img, want) {
		t.Errorf("%+v", img)
	}
}

// A label of a line that turns is of the section ahead of it; one of a line with bytes, or with .align, stands ahead of them.
func TestLabelsPlaces(t *testing.T) {
	img := laid(t, `a: .byte 1
b: .data
c: .byte 1, 2
d: e: .align 2
f: .bss
g: .zero 5
h: .align 4
i:
j: .text
k: .align 3
l: .equ m, 77
.data
n: .text
.bss
o:`)
	want := []api.Symbol{
		{Name: "a", Value: 0}, {Name: "b", Value: 1}, {Name: "c", Value: 4096}, {Name: "d", Value: 4098}, {Name: "e", Value: 4098}, {Name: "f", Value: 4100},
		{Name: "g", Value: 4112}, {Name: "h", Value: 4117}, {Name: "i", Value: 4128}, {Name: "j", Value: 4128}, {Name: "k", Value: 1}, {Name: "l", Value: 8}, {Name: "m", Value: 77},
		{Name: "n", Value: 4100}, {Name: "o", Value: 4128},
	}
	if !reflect.DeepEqual(img.Symbols, want) {
		t.Errorf("%+v", img.Symbols)
	}
	if img.Bss != 16 || img.BssAt != 4112 || len(img.Data) != 4 || len(img.Code) != 8 {
		t.Errorf("%+v", img)
	}
}

// DataAt and BssAt around the multiples that they are rounded to.
func TestAddresses(t *testing.T) {
	for _, code := range []uint64{0, 1, 4, 4095, 4096, 4097, 8192, 65535, 65536} {
		for _, data := range []uint64{0, 1, 15, 16, 17, 4096, 65535, 65536} {
			for _, bss := range []uint64{0, 1, 65536} {
				img := laid(t, fmt.Sprintf("c: .zero %d\nce: .data\nd: .zero %d\nde: .bss\nb: .zero %d\nbe:", code, data, bss))
				dataAt := (code + 4095) / 4096 * 4096
				bssAt := (dataAt + data + 15) / 16 * 16
				if img.DataAt != dataAt || img.BssAt != bssAt || img.Bss != bss || uint64(len(img.Code)) != code || uint64(len(img.Data)) != data {
					t.Errorf("%d %d %d: DataAt %d BssAt %d Bss %d", code, data, bss, img.DataAt, img.BssAt, img.Bss)
				}
				want := []api.Symbol{{Name: "b", Value: bssAt}, {Name: "be", Value: bssAt + bss}, {Name: "c"}, {Name: "ce", Value: code}, {Name: "d", Value: dataAt}, {Name: "de", Value: dataAt + data}}
				if !reflect.DeepEqual(img.Symbols, want) {
					t.Errorf("%d %d %d: %+v", code, data, bss, img.Symbols)
				}
			}
		}
	}
}

func TestEntry(t *testing.T) {
	for _, c := range []struct {
		text string
		want uint64
	}{
		{"nop\n_start: nop", 4}, {"nop\nnop\n_start:", 8}, {"nop\nstart: nop", 0}, {"nop\n_start_: nop", 0}, {"nop\n.data\n_start: .byte 1", 0}, {"nop\n.bss\n_start: .zero 8", 0},
		{"nop\n.equ _start, 4", 0}, {"nop\n_start: .data", 4}, {"nop\n.data\n_start: .text", 0}, {".byte 1\n_start: .byte 2", 1}, {"_start: nop", 0},
	} {
		if got := laid(t, c.text).Entry; got != c.want {
			t.Errorf("%q: %d", c.text, got)
		}
	}
}

func TestSymbolsRise(t *testing.T) {
	names := []string{"b", "a", "B", "_", ".", "a0", "a.", "a_", "aa", "A", "Z", "z", "a9", "a10", "ab", "aB", "zz", "..", "__"}
	text := strings.Join(names, ":\n") + ":\n.equ cc, 5\n.equ CC, 6"
	var got []string
	for _, s := range laid(t, text).Symbols {
		got = append(got, s.Name)
	}
	want := append(names, "cc", "CC")
	sort.Strings(want)
	if !reflect.DeepEqual(got, want) {
		t.Errorf("%q", got)
	}
}

func TestConstants(t *testing.T) {
	img := laid(t, ".equ a, 5\n.equ b, a + a\n.equ c, b-a-6\nli a0, b\nx: .zero b\n.align a-3\n.equ d, -1\n.equ e, 'e'\n.data\n.equ f, 0xffffffffffffffff\n.bss\n.equ g, 7\n.zero g")
	values := map[string]uint64{"a": 5, "b": 10, "c": 1<<64 - 1, "d": 1<<64 - 1, "e": 'e', "f": 1<<64 - 1, "g": 7, "x": 4}
	for _, s := range img.Symbols {
		if values[s.Name] != s.Value {
			t.Errorf("%s: %d", s.Name, s.Value)
		}
	}
	if len(img.Symbols) != len(values) || len(img.Code) != 16 || img.Bss != 7 || img.DataAt != 4096 {
		t.Errorf("%+v", img)
	}
	// A constant may be used ahead of its line where no constant expression is asked for.
	sameCode(t, "addi a0, a0, 5\n.byte 5\n.equ a, 5", "addi a0, a0, a\n.byte a\n.equ a, 5")
}

func TestNoConstants(t *testing.T) {
	for _, form := range []string{"li a0, @", ".zero @", ".align @", ".equ z, @", "li a0, 1+@", ".zero 1-@", ".equ z, 0 - @", "z: li a0, @"} {
		for _, c := range []struct{ name, ahead, behind string }{
			{"nosuch", "", ""}, {"l", "l:", ""}, {"l", ".data\nl: .text", ""}, {"later", "", "later:"}, {"later", "", ".equ later, 1"}, {"z", "", ""}, {"same", "", ""},
		} {
			text := c.ahead + "\n" + strings.ReplaceAll(form, "@", c.name) + "\n" + c.behind
			checkRefused(t, text, 2+strings.Count(c.ahead, "\n"), api.ErrAsmConstant)
		}
		checkRefused(t, "same: "+strings.ReplaceAll(form, "@", "same"), 1, api.ErrAsmConstant)
	}
	for _, text := range []string{".equ a, 1, 2", ".equ a", ".equ 1, a", ".equ 1a, 1", ".equ (a), 1", ".equ \"a\", 1", ".equ 'a', 1", ".equ a b", ".equ a 1", ".equ a=1", ".equ " + strings.Repeat("n", 33) + ", 1", ".equ a, \"a\"", ".equ a, 4(sp)"} {
		checkRefused(t, text, 1, api.ErrAsmForm)
	}
	laid(t, ".equ "+strings.Repeat("n", 32)+", 1")
}

func TestSymbolsTwice(t *testing.T) {
	for _, c := range []struct {
		text string
		at   int
	}{
		{"a:\na:", 2}, {"a: b: a:", 1}, {"a:\n.equ a, 1", 2}, {".equ a, 1\na:", 2}, {".equ a, 1\n.equ a, 1", 2}, {"a: .equ a, 1", 1}, {"a:\n.data\na:", 3}, {"a:\n\nb:\nb: a: nop", 4}, {".equ a, 1\n.equ a, a", 2},
	} {
		checkRefused(t, c.text, c.at, api.ErrAsmSymbol)
	}
	laid(t, "a:\nA:\na.:\n.a:\n_a:")
}

func TestTooManySymbols(t *testing.T) {
	var full strings.Builder
	for k := range api.MaxSymbols {
		if k%3 == 0 {
			fmt.Fprintf(&full, ".equ s%d, %d\n", k, k)
		} else {
			fmt.Fprintf(&full, "s%d:\n", k)
		}
	}
	if got := len(laid(t, full.String()).Symbols); got != api.MaxSymbols {
		t.Errorf("%d symbols", got)
	}
	for _, more := range []string{"more:", ".equ more, 1", "nop\nmore: nop", "s1:", "more: even:"} {
		at := api.MaxSymbols + 1 + strings.Count(more, "\n")
		checkRefused(t, full.String()+more, at, api.ErrAsmSymbol)
	}
	// All on one line.
	line := ""
	for k := range api.MaxSymbols {
		line += fmt.Sprintf("s%d:", k)
	}
	laid(t, line)
	checkRefused(t, line+"x:", 1, api.ErrAsmSymbol)
	checkRefused(t, "\n"+line+".equ x, nosuch", 2, api.ErrAsmSymbol)
}

func TestNumbersLaidDown(t *testing.T) {
	for _, c := range []struct {
		word string
		size int
	}{{".byte", 1}, {".half", 2}, {".word", 4}} {
		bits := 8 * c.size
		for _, v := range []int64{0, 1, -1, 1<<bits - 1, 1 << (bits - 1), -1 << (bits - 1), 0x0123456789abcdef & (1<<bits - 1)} {
			want := make([]byte, c.size)
			for k := range want {
				want[k] = byte(v >> (8 * k))
			}
			if got := codeOf(t, fmt.Sprint(c.word, " ", v)); !bytes.Equal(got, want) {
				t.Errorf("%s %d: % x", c.word, v, got)
			}
		}
		for _, v := range []string{fmt.Sprint(uint64(1) << bits), fmt.Sprint(-1<<(bits-1) - 1), "0x8000000000000000", "0x7fffffffffffffff", fmt.Sprint("0xffffffffffffffff - ", 1<<(bits-1))} {
			checkRefused(t, "\n"+c.word+" "+v, 2, api.ErrAsmRange)
			checkRefused(t, "\n"+c.word+" 1, "+v+", 2", 2, api.ErrAsmRange)
		}
		laid(t, fmt.Sprint(c.word, " 0xffffffffffffffff - ", 1<<(bits-1)-1))
	}
	if got := codeOf(t, ".dword 0x0123456789abcdef, -1, 0x8000000000000000"); !bytes.Equal(got, []byte{0xef, 0xcd, 0xab, 0x89, 0x67, 0x45, 0x23, 1, 255, 255, 255, 255, 255, 255, 255, 255, 0, 0, 0, 0, 0, 0, 0, 0x80}) {
		t.Errorf("% x", got)
	}
	if got := laid(t, ".data\n.byte 1,2,'3', a , b\na: b: .half a, 0xfff5-b+a, -2\n.word -3, 0x80000000").Data; !bytes.Equal(got, []byte{1, 2, '3', 5, 5, 5, 0, 0xf5, 0xff, 0xfe, 0xff, 0xfd, 0xff, 0xff, 0xff, 0, 0, 0, 0x80}) {
		t.Errorf("% x", got)
	}
	checkRefused(t, ".byte", 1, api.ErrAsmForm)
	checkRefused(t, ".byte 1 2", 1, api.ErrAsmForm)
	checkRefused(t, ".byte \"a\"", 1, api.ErrAsmForm)
}

func TestZerosAndAligns(t *testing.T) {
	for _, section := range []string{".text", ".data", ".bss"} {
		for _, v := range []string{"65537", "-1", "0x10000000000000000-1", "0xffffffffffffffff", "0x8000000000000000", "0x100000000"} {
			want := api.ErrAsmRange
			if strings.HasPrefix(v, "0x10000000000000000") {
				want = api.ErrAsmForm
			}
			checkRefused(t, section+"\n.zero "+v, 2, want)
		}
		for _, v := range []string{"13", "-1", "64", "0x100000000", "0xffffffffffffffff", "0x8000000000000000"} {
			checkRefused(t, section+"\n.align "+v, 2, api.ErrAsmRange)
		}
		laid(t, section+"\n.zero 65536")
		laid(t, section+"\n.zero 0\n.align 0\n.align 12")
	}
	for c := range 13 {
		for _, at := range []int{0, 1, 2, 3, 5, 8, 15, 16, 17, 1023, 4095, 4096, 4097, 60000} {
			want := at
			for want%(1<<c) != 0 {
				want++
			}
			text := fmt.Sprintf("\n.zero %d\n.align %d\nend:", at, c)
			if got := laid(t, text); len(got.Code) != want || bytes.Count(got.Code, []byte{0}) != want {
				t.Errorf("%q: %d bytes", text, len(got.Code))
			}
			if got := laid(t, ".bss"+text); got.Bss != uint64(want) || got.Code != nil {
				t.Errorf(".bss %q: %d bytes", text, got.Bss)
			}
		}
	}
	if got := codeOf(t, ".byte 1\n.zero 2\n.byte 3\n.align 3\n.byte 4"); !bytes.Equal(got, []byte{1, 0, 0, 3, 0, 0, 0, 0, 4}) {
		t.Errorf("% x", got)
	}
}

// What may stand in which section.
func TestWhatStandsWhere(t *testing.T) {
	anywhere := []string{".zero 4", ".align 2", ".equ c, 1", ".text", ".data", ".bss", "l:", ""}
	bytes := []string{".byte 1", ".half 1", ".word 1", ".dword 1", `.ascii "a"`, `.asciz ""`, `.ascii ""`}
	code := []string{"nop", "li a0, 1", "la a0, 0", "add a0, a0, a0", "ecall", "fence", "ret", "call 0", "tail 0", "j 0"}
	for _, text := range anywhere {
		for _, section := range []string{".text", ".data", ".bss"} {
			laid(t, section+"\n"+text)
		}
	}
	for _, text := range bytes {
		laid(t, text)
		laid(t, ".data\n"+text)
		checkRefused(t, ".bss\n"+text, 2, api.ErrAsmSection)
	}
	for _, text := range code {
		laid(t, text)
		laid(t, ".data\n.text\n"+text)
		checkRefused(t, ".data\n"+text, 2, api.ErrAsmSection)
		checkRefused(t, ".bss\n\n"+text, 3, api.ErrAsmSection)
		for at := 1; at < 9; at++ {
			if at%4 == 0 {
				laid(t, fmt.Sprintf(".zero %d\n%s", at, text))
			} else {
				checkRefused(t, fmt.Sprintf(".zero %d\n%s", at, text), 2, api.ErrAsmSection)
			}
		}
	}
}

// Each section holds MaxSection bytes, and not one more.
func TestTooLongSections(t *testing.T) {
	for _, section := range []string{".text", ".data", ".bss"} {
		full := section + "\n.zero 65536\n"
		laid(t, full+".zero 0\n.align 12\n.equ c, 1\nl:")
		checkRefused(t, full+".zero 1", 3, api.ErrAsmLong)
		checkRefused(t, section+"\n.zero 1\n.zero 65535\n.zero 1\nfoo", 4, api.ErrAsmLong)
		checkRefused(t, section+"\n.zero 1\n.zero 65536", 3, api.ErrAsmLong)
		laid(t, section+"\n.zero 65535\n.align 12")
		if section != ".bss" {
			checkRefused(t, full+".byte 0", 3, api.ErrAsmLong)
			checkRefused(t, section+"\n.zero 65535\n.half 0", 3, api.ErrAsmLong)
			checkRefused(t, section+"\n.zero 65535\n.asciz \"a\"", 3, api.ErrAsmLong)
			laid(t, full+".ascii \"\"")
		}
	}
	for _, c := range []struct {
		text string
		size int
	}{{"nop", 4}, {"li a0, 0x800", 8}, {"li a0, 0x7ff", 4}, {"la a0, 65536", 8}, {"call 65536", 8}, {"tail 65536", 8}, {"li a0, 0x123456789abcdef1", 32}} {
		laid(t, fmt.Sprintf(".zero %d\n%s", 65536-c.size, c.text))
		checkRefused(t, fmt.Sprintf(".zero %d\n%s", 65540-c.size, c.text), 2, api.ErrAsmLong)
	}
	laid(t, ".zero 65536\n.data\n.zero 65536\n.bss\n.zero 65536")
	laid(t, strings.Repeat("nop\n", 16384))
	checkRefused(t, strings.Repeat("nop\n", 16385), 16385, api.ErrAsmLong)
	checkRefused(t, ".dword 0"+strings.Repeat(",0", 8192), 1, api.ErrAsmLong)
	laid(t, ".dword 0"+strings.Repeat(",0", 8191))
}

// DOC.md, Memory: what is handed out is new, and of two answers none touches the other.
func TestImagesAreNew(t *testing.T) {
	text := "a: nop\n.data\nb: .byte 1, 2, 3\n.bss\n.zero 8"
	first, second := laid(t, text), laid(t, text)
	fill := func(b []byte) {
		for k := range b[:cap(b)] {
			b[:cap(b)][k] = 0xee
		}
	}
	got, err := asm.Assemble(text)
	if err != nil {
		t.Fatal(err)
	}
	fill(got.Code)
	if !bytes.Equal(got.Data, second.Data) {
		t.Error("Code and Data share memory")
	}
	fill(got.Data)
	for k := range got.Symbols {
		got.Symbols[k] = api.Symbol{Name: "x", Value: 99}
	}
	again, _ := asm.Assemble(text)
	if !reflect.DeepEqual(again, first) {
		t.Errorf("%+v", again)
	}
	_, errA := asm.Assemble("foo")
	errA.(*api.Fault).At = 77
	_, errB := asm.Assemble("foo")
	checkFault(t, "foo", errB, 1, api.ErrAsmName)
}
