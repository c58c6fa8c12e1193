package asm_test

// Instructions and short forms as words, and the ranges of their numbers.

import (
	"encoding/binary"
	"fmt"
	"reflect"
	"strings"
	"testing"

	"hartix/api"
	"hartix/insn"
)

// insnsOf gives the instructions of a text's code, behind its first so many bytes.
func insnsOf(t *testing.T, text string, behind int) []api.Insn {
	t.Helper()
	var list []api.Insn
	code := codeOf(t, text)[behind:]
	for ; len(code) >= 4; code = code[4:] {
		i, err := insn.Decode(binary.LittleEndian.Uint32(code))
		if err != nil {
			t.Fatalf("%.200q: %v", text, err)
		}
		list = append(list, i)
	}
	return list
}

func checkInsns(t *testing.T, text string, behind int, want ...api.Insn) {
	t.Helper()
	if got := insnsOf(t, text, behind); !reflect.DeepEqual(got, want) {
		t.Errorf("%.200q: %+v, not %+v", text, got, want)
	}
}

// P6.5: the word that an instruction becomes, Decode reads as that instruction: one of each operation.
func TestEveryOperation(t *testing.T) {
	for op := 1; op < api.Ops; op++ {
		name := insn.Name(op)
		i := api.Insn{Op: op}
		var text string
		switch insn.Shape(op) {
		case api.ShapeR:
			i.Rd, i.Rs1, i.Rs2 = 10, 11, 12
			text = "a0, a1, a2"
		case api.ShapeI, api.ShapeH, api.ShapeW:
			i.Rd, i.Rs1, i.Imm = 10, 11, 29
			text = "a0, a1, 29"
			if op == api.OpJALR {
				text = "a0, 29(a1)"
			}
		case api.ShapeL:
			i.Rd, i.Rs1, i.Imm = 10, 11, -29
			text = "a0, -29(a1)"
		case api.ShapeS:
			i.Rs2, i.Rs1, i.Imm = 10, 11, -29
			text = "a0, -29(a1)"
		case api.ShapeB:
			i.Rs1, i.Rs2, i.Imm = 10, 11, 8
			text = "a0, a1, 12"
		case api.ShapeU:
			i.Rd, i.Imm = 10, 0x12345000
			text = "a0, 0x12345"
		case api.ShapeJ:
			i.Rd, i.Imm = 10, -4
			text = "a0, 0"
		case api.ShapeF:
			if op == api.OpFENCE {
				i.Imm = 255
			}
		case api.ShapeV:
			i.Rs1, i.Rs2 = 10, 11
			text = "a0, a1"
		case api.ShapeC:
			i.Rd, i.Csr, i.Rs1 = 10, 0xc01, 11
			text = "a0, 0xc01, a1"
		case api.ShapeCI:
			i.Rd, i.Csr, i.Imm = 10, 0xc01, 29
			text = "a0, 0xc01, 29"
		}
		checkInsns(t, ".zero 4\n"+name+" "+text, 4, i)
		checkInsns(t, ".zero 4\nl: "+name+"\t"+strings.ReplaceAll(text, ", ", ",")+"# remark", 4, i)
	}
}

func TestShortForms(t *testing.T) {
	const s, d, e = 18, 19, 20 // s2, s3, s4
	for _, c := range []struct {
		text string
		want []api.Insn
	}{
		{"nop", []api.Insn{{Op: api.OpADDI}}},
		{"mv s3, s2", []api.Insn{{Op: api.OpADDI, Rd: d, Rs1: s}}},
		{"not s3, s2", []api.Insn{{Op: api.OpXORI, Rd: d, Rs1: s, Imm: -1}}},
		{"neg s3, s2", []api.Insn{{Op: api.OpSUB, Rd: d, Rs2: s}}},
		{"negw s3, s2", []api.Insn{{Op: api.OpSUBW, Rd: d, Rs2: s}}},
		{"sext.w s3, s2", []api.Insn{{Op: api.OpADDIW, Rd: d, Rs1: s}}},
		{"seqz s3, s2", []api.Insn{{Op: api.OpSLTIU, Rd: d, Rs1: s, Imm: 1}}},
		{"snez s3, s2", []api.Insn{{Op: api.OpSLTU, Rd: d, Rs2: s}}},
		{"sltz s3, s2", []api.Insn{{Op: api.OpSLT, Rd: d, Rs1: s}}},
		{"sgtz s3, s2", []api.Insn{{Op: api.OpSLT, Rd: d, Rs2: s}}},
		{"beqz s2, l", []api.Insn{{Op: api.OpBEQ, Rs1: s, Imm: -8}}},
		{"bnez s2, l", []api.Insn{{Op: api.OpBNE, Rs1: s, Imm: -8}}},
		{"bltz s2, l", []api.Insn{{Op: api.OpBLT, Rs1: s, Imm: -8}}},
		{"bgez s2, l", []api.Insn{{Op: api.OpBGE, Rs1: s, Imm: -8}}},
		{"bgtz s2, l", []api.Insn{{Op: api.OpBLT, Rs2: s, Imm: -8}}},
		{"blez s2, l", []api.Insn{{Op: api.OpBGE, Rs2: s, Imm: -8}}},
		{"bgt s3, s4, l", []api.Insn{{Op: api.OpBLT, Rs1: e, Rs2: d, Imm: -8}}},
		{"ble s3, s4, l", []api.Insn{{Op: api.OpBGE, Rs1: e, Rs2: d, Imm: -8}}},
		{"bgtu s3, s4, l", []api.Insn{{Op: api.OpBLTU, Rs1: e, Rs2: d, Imm: -8}}},
		{"bleu s3, s4, l", []api.Insn{{Op: api.OpBGEU, Rs1: e, Rs2: d, Imm: -8}}},
		{"j l", []api.Insn{{Op: api.OpJAL, Imm: -8}}},
		{"jr s2", []api.Insn{{Op: api.OpJALR, Rs1: s}}},
		{"ret", []api.Insn{{Op: api.OpJALR, Rs1: 1}}},
		{"li s3, 5", []api.Insn{{Op: api.OpADDI, Rd: d, Imm: 5}}},
		{"li s3, -0x12345678", []api.Insn{{Op: api.OpLUI, Rd: d, Imm: -0x12345000}, {Op: api.OpADDIW, Rd: d, Rs1: d, Imm: -0x678}}},
		{"la s3, l", []api.Insn{{Op: api.OpAUIPC, Rd: d}, {Op: api.OpADDI, Rd: d, Rs1: d, Imm: -8}}},
		{"call l", []api.Insn{{Op: api.OpAUIPC, Rd: 1}, {Op: api.OpJALR, Rd: 1, Rs1: 1, Imm: -8}}},
		{"tail l", []api.Insn{{Op: api.OpAUIPC, Rd: 6}, {Op: api.OpJALR, Rs1: 6, Imm: -8}}},
		{"la s3, 0x12345678 + 8", []api.Insn{{Op: api.OpAUIPC, Rd: d, Imm: 0x12345000}, {Op: api.OpADDI, Rd: d, Rs1: d, Imm: 0x678}}},
		{"call 0x12345878 + 8", []api.Insn{{Op: api.OpAUIPC, Rd: 1, Imm: 0x12346000}, {Op: api.OpJALR, Rd: 1, Rs1: 1, Imm: -0x788}}},
		{"tail -0x1000", []api.Insn{{Op: api.OpAUIPC, Rd: 6, Imm: -0x1000}, {Op: api.OpJALR, Rs1: 6, Imm: -8}}},
		{"la zero, l+3", []api.Insn{{Op: api.OpAUIPC}, {Op: api.OpADDI, Imm: -5}}},
	} {
		checkInsns(t, "l: .zero 8\n"+c.text, 8, c.want...)
	}
}

// A number at the ends of its range is taken; the next ones beyond, and those that agree with it in their low bits alone, are not.
func TestRanges(t *testing.T) {
	for _, c := range []struct {
		form        string
		least, most int64
	}{
		{"addi a0, a1, @", -2048, 2047}, {"sltiu a0, a1, @", -2048, 2047}, {"addiw a0, a1, @", -2048, 2047}, {"jalr a0, @(a1)", -2048, 2047},
		{"slli a0, a1, @", 0, 63}, {"srai a0, a1, @", 0, 63}, {"slliw a0, a1, @", 0, 31}, {"sraiw a0, a1, @", 0, 31},
		{"lb a0, @(a1)", -2048, 2047}, {"ld a0, @(a1)", -2048, 2047}, {"sb a0, @(a1)", -2048, 2047}, {"sd a0, @(a1)", -2048, 2047},
		{"lui a0, @", -524288, 1048575}, {"auipc a0, @", -524288, 1048575},
		{"csrrw a0, @, a1", 0, 4095}, {"csrrwi a0, @, 0", 0, 4095}, {"csrrci a0, 0, @", 0, 31},
	} {
		at := func(sum string) string { return "nop\n" + strings.ReplaceAll(c.form, "@", sum) }
		for _, v := range []int64{c.least, c.least + 1, 0, 1, c.most - 1, c.most} {
			laid(t, at(fmt.Sprint(v)))
			laid(t, at(fmt.Sprintf("%#x", uint64(v))))
			laid(t, at("c - 5")+fmt.Sprintf("\n.equ c, %d+5", v))
		}
		for _, v := range []int64{c.least - 1, c.most + 1, c.least - 4096, c.most + 4096, c.least + 1<<32, c.most - 1<<32, 1 << 62, -1 << 63} {
			checkRefused(t, at(fmt.Sprint(v)), 2, api.ErrAsmRange)
			checkRefused(t, at("c - 5")+fmt.Sprintf("\n.equ c, %d+5", v), 2, api.ErrAsmRange)
		}
		checkRefused(t, at("0x8000000000000000"), 2, api.ErrAsmRange)
		checkRefused(t, at("0x7fffffffffffffff"), 2, api.ErrAsmRange)
	}
}

func TestUpper(t *testing.T) {
	for _, c := range []struct {
		sum string
		imm int64
	}{{"0", 0}, {"1", 4096}, {"524287", 1<<31 - 4096}, {"524288", -1 << 31}, {"1048575", -4096}, {"-1", -4096}, {"-524288", -1 << 31}, {"-524287", -1<<31 + 4096}} {
		checkInsns(t, "lui a0, "+c.sum, 0, api.Insn{Op: api.OpLUI, Rd: 10, Imm: c.imm})
		checkInsns(t, "auipc a0, "+c.sum, 0, api.Insn{Op: api.OpAUIPC, Rd: 10, Imm: c.imm})
	}
}

// Targets are addresses: how far they are is told from the instruction.
func TestTargets(t *testing.T) {
	for _, c := range []struct {
		form        string
		least, most int64
	}{
		{"beq a0, a1, @", -4096, 4094}, {"bgeu a0, a1, @", -4096, 4094}, {"blez a0, @", -4096, 4094}, {"bleu a0, a1, @", -4096, 4094},
		{"jal a0, @", -1 << 20, 1<<20 - 2}, {"j @", -1 << 20, 1<<20 - 2},
	} {
		for _, at := range []int64{0, 4, 4096, 65532} {
			text := func(d int64) string {
				return fmt.Sprintf("l: .zero %d\n%s", at, strings.ReplaceAll(c.form, "@", fmt.Sprintf("%d + l", at+d)))
			}
			for _, d := range []int64{c.least, c.least + 2, -4, -2, 0, 2, 4, c.most - 2, c.most} {
				if got := insnsOf(t, text(d), int(at)); len(got) != 1 || got[0].Imm != d {
					t.Errorf("%q: %+v", text(d), got)
				}
			}
			for _, d := range []int64{c.least - 2, c.least - 1, c.least + 1, -1, 1, 3, c.most - 1, c.most + 1, c.most + 2, 1 << 32, -1 << 32, 1<<62 - at} {
				checkRefused(t, text(d), 2, api.ErrAsmRange)
			}
		}
	}
}

// How far la, call and tail reach.
func TestFarTargets(t *testing.T) {
	for _, form := range []string{"la a0, @", "call @", "tail @"} {
		for _, at := range []int64{0, 8, 4096, 65528} {
			text := func(d int64) string {
				return fmt.Sprintf(".zero %d\n%s", at, strings.ReplaceAll(form, "@", fmt.Sprint(at+d)))
			}
			for _, d := range []int64{-1 << 31, -1<<31 + 1, -1<<31 + 2047, -1<<31 + 2048, -4097, -2049, -2048, -1, 0, 1, 2, 2047, 2048, 4095, 4096, 1<<31 - 4096, 1<<31 - 2050, 1<<31 - 2049} {
				got := insnsOf(t, text(d), int(at))
				if len(got) != 2 || got[0].Op != api.OpAUIPC || got[0].Imm+got[1].Imm != d || got[1].Rs1 != got[0].Rd {
					t.Errorf("%q: %+v", text(d), got)
				}
			}
			for _, d := range []int64{-1<<31 - 1, -1<<31 - 2, -1<<31 - 2048, -1<<31 - 2049, 1<<31 - 2048, 1<<31 - 2047, 1 << 31, 1<<32 - 1, 1 << 32, -1 << 32, 1 << 62, -1 << 62} {
				checkRefused(t, text(d), 2, api.ErrAsmRange)
			}
			checkRefused(t, fmt.Sprintf(".zero %d\n%s", at, strings.ReplaceAll(form, "@", "0x8000000000000000")), 2, api.ErrAsmRange)
		}
	}
}

// Labels of all sections as targets and as numbers.
func TestLabelsAsValues(t *testing.T) {
	text := `la a0, d
la a1, b
la a2, end
call end
lui a3, d
addi a4, zero, end
end: .data
.zero 100
d: .bss
.zero 20
b:`
	const end, d, b = 40, 4096 + 100, 4096 + 112 + 20
	checkInsns(t, text, 0,
		api.Insn{Op: api.OpAUIPC, Rd: 10, Imm: 4096}, api.Insn{Op: api.OpADDI, Rd: 10, Rs1: 10, Imm: d - 4096},
		api.Insn{Op: api.OpAUIPC, Rd: 11, Imm: 4096}, api.Insn{Op: api.OpADDI, Rd: 11, Rs1: 11, Imm: b - 8 - 4096},
		api.Insn{Op: api.OpAUIPC, Rd: 12}, api.Insn{Op: api.OpADDI, Rd: 12, Rs1: 12, Imm: end - 16},
		api.Insn{Op: api.OpAUIPC, Rd: 1}, api.Insn{Op: api.OpJALR, Rd: 1, Rs1: 1, Imm: end - 24},
		api.Insn{Op: api.OpLUI, Rd: 13, Imm: d << 12}, api.Insn{Op: api.OpADDI, Rd: 14, Imm: end})
}

// Every li is as long as its Load, and the lines behind it stand there.
func TestLoadsLaidDown(t *testing.T) {
	for _, v := range loadEdges() {
		text := fmt.Sprintf("li s1, %d\nend: nop", v)
		checkInsns(t, text, 0, append(wantLoad(bigOf(v), 9), api.Insn{Op: api.OpADDI})...)
		laid(t, fmt.Sprintf(".equ c, %#x\nli x31, c + 1 - 1", v))
	}
	for _, text := range []string{"li a0, 1(sp)", "li a0, \"a\"", "li 1, a0", "li a0", "li a0, 1, 2"} {
		checkRefused(t, text, 1, api.ErrAsmForm)
	}
}
