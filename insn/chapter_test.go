package insn_test

// What the chapter's two tables say, read a second time and bit by bit, so that the tests do not lean on the code they test.

import (
	"strconv"
	"strings"
	"testing"

	"hartix/api"
)

// chapterRows: number, name, shape, opcode, funct3, funct7 (of shape Z the whole word); - where the chapter's field is empty.
const chapterRows = `1 lui U 37 - -
2 auipc U 17 - -
3 jal J 6F - -
4 jalr I 67 0 -
5 beq B 63 0 -
6 bne B 63 1 -
7 blt B 63 4 -
8 bge B 63 5 -
9 bltu B 63 6 -
10 bgeu B 63 7 -
11 lb L 03 0 -
12 lh L 03 1 -
13 lw L 03 2 -
14 ld L 03 3 -
15 lbu L 03 4 -
16 lhu L 03 5 -
17 lwu L 03 6 -
18 sb S 23 0 -
19 sh S 23 1 -
20 sw S 23 2 -
21 sd S 23 3 -
22 addi I 13 0 -
23 slti I 13 2 -
24 sltiu I 13 3 -
25 xori I 13 4 -
26 ori I 13 6 -
27 andi I 13 7 -
28 slli H 13 1 00
29 srli H 13 5 00
30 srai H 13 5 20
31 add R 33 0 00
32 sub R 33 0 20
33 sll R 33 1 00
34 slt R 33 2 00
35 sltu R 33 3 00
36 xor R 33 4 00
37 srl R 33 5 00
38 sra R 33 5 20
39 or R 33 6 00
40 and R 33 7 00
41 addiw I 1B 0 -
42 slliw W 1B 1 00
43 srliw W 1B 5 00
44 sraiw W 1B 5 20
45 addw R 3B 0 00
46 subw R 3B 0 20
47 sllw R 3B 1 00
48 srlw R 3B 5 00
49 sraw R 3B 5 20
50 mul R 33 0 01
51 mulh R 33 1 01
52 mulhsu R 33 2 01
53 mulhu R 33 3 01
54 div R 33 4 01
55 divu R 33 5 01
56 rem R 33 6 01
57 remu R 33 7 01
58 mulw R 3B 0 01
59 divw R 3B 4 01
60 divuw R 3B 5 01
61 remw R 3B 6 01
62 remuw R 3B 7 01
63 fence F 0F 0 -
64 fence.i F 0F 1 -
65 ecall Z 73 0 00000073
66 ebreak Z 73 0 00100073
67 sret Z 73 0 10200073
68 mret Z 73 0 30200073
69 wfi Z 73 0 10500073
70 sfence.vma V 73 0 09
71 csrrw C 73 1 -
72 csrrs C 73 2 -
73 csrrc C 73 3 -
74 csrrwi CI 73 5 -
75 csrrsi CI 73 6 -
76 csrrci CI 73 7 -`

type row struct {
	op    int
	name  string
	shape string
	fixed uint32
}

func chapter(t *testing.T) []row {
	t.Helper()
	var rows []row
	for _, line := range strings.Split(chapterRows, "\n") {
		f := strings.Fields(line)
		op, err := strconv.Atoi(f[0])
		if err != nil || len(f) != 6 {
			t.Fatalf("row %q", line)
		}
		r := row{op: op, name: f[1], shape: f[2]}
		if r.shape == "Z" {
			r.fixed = hex(t, f[5])
		} else {
			r.fixed = hex(t, f[3]) + hex(t, f[4])*0x1000 + hex(t, f[5])*0x2000000
		}
		rows = append(rows, r)
	}
	return rows
}

func hex(t *testing.T, s string) uint32 {
	t.Helper()
	if s == "-" {
		return 0
	}
	n, err := strconv.ParseUint(s, 16, 32)
	if err != nil {
		t.Fatalf("hexadecimal %q", s)
	}
	return uint32(n)
}

// span: the word's bits high to low are those of Imm from its bit imm down to the one that lies at low.
type span struct{ high, low, imm int }

type form struct {
	number             int
	rd, rs1, rs2, csr  bool
	imm                []span
	least, most, every int64
}

var forms = map[string]form{
	"R":  {number: api.ShapeR, rd: true, rs1: true, rs2: true, every: 1},
	"I":  {number: api.ShapeI, rd: true, rs1: true, imm: []span{{31, 20, 11}}, least: -2048, most: 2047, every: 1},
	"L":  {number: api.ShapeL, rd: true, rs1: true, imm: []span{{31, 20, 11}}, least: -2048, most: 2047, every: 1},
	"H":  {number: api.ShapeH, rd: true, rs1: true, imm: []span{{25, 20, 5}}, most: 63, every: 1},
	"W":  {number: api.ShapeW, rd: true, rs1: true, imm: []span{{24, 20, 4}}, most: 31, every: 1},
	"S":  {number: api.ShapeS, rs1: true, rs2: true, imm: []span{{31, 25, 11}, {11, 7, 4}}, least: -2048, most: 2047, every: 1},
	"B":  {number: api.ShapeB, rs1: true, rs2: true, imm: []span{{31, 31, 12}, {30, 25, 10}, {11, 8, 4}, {7, 7, 11}}, least: -4096, most: 4094, every: 2},
	"U":  {number: api.ShapeU, rd: true, imm: []span{{31, 12, 31}}, least: -1 << 31, most: 1<<31 - 4096, every: 4096},
	"J":  {number: api.ShapeJ, rd: true, imm: []span{{31, 31, 20}, {30, 21, 10}, {20, 20, 11}, {19, 12, 19}}, least: -1 << 20, most: 1<<20 - 2, every: 2},
	"F":  {number: api.ShapeF, rd: true, rs1: true, imm: []span{{31, 20, 11}}, most: 4095, every: 1},
	"Z":  {number: api.ShapeZ, every: 1},
	"V":  {number: api.ShapeV, rs1: true, rs2: true, every: 1},
	"C":  {number: api.ShapeC, rd: true, rs1: true, csr: true, every: 1},
	"CI": {number: api.ShapeCI, rd: true, csr: true, imm: []span{{19, 15, 4}}, most: 31, every: 1},
}

// eachField gives every field that the form has: its bits in the word, and its place in the instruction.
func (f form) eachField(i *api.Insn, do func(high, low int, at *int)) {
	if f.rd {
		do(11, 7, &i.Rd)
	}
	if f.rs1 {
		do(19, 15, &i.Rs1)
	}
	if f.rs2 {
		do(24, 20, &i.Rs2)
	}
	if f.csr {
		do(31, 20, &i.Csr)
	}
}

// eachBit gives every bit of Imm: where it lies in the word, and its own number.
func (f form) eachBit(do func(bit, imm int)) {
	for _, s := range f.imm {
		for k := 0; s.low+k <= s.high; k++ {
			do(s.low+k, s.imm-(s.high-s.low)+k)
		}
	}
}

// free: the bits that are operands; all others are the operation's.
func (f form) free() uint32 {
	var bits uint32
	f.eachField(&api.Insn{}, func(high, low int, _ *int) {
		for b := low; b <= high; b++ {
			bits |= 1 << b
		}
	})
	f.eachBit(func(bit, _ int) { bits |= 1 << bit })
	return bits
}

// wordOf: the word of an instruction that may be.
func (r row) wordOf(i api.Insn) uint32 {
	word := r.fixed
	f := forms[r.shape]
	f.eachField(&i, func(_, low int, at *int) { word |= uint32(*at) << low })
	f.eachBit(func(bit, imm int) { word |= uint32(i.Imm>>imm&1) << bit })
	return word
}

// insnOf: the instruction of a word that is one of this operation.
func (r row) insnOf(word uint32) api.Insn {
	i := api.Insn{Op: r.op}
	f := forms[r.shape]
	f.eachField(&i, func(high, low int, at *int) { *at = int(word >> low & (1<<(high-low+1) - 1)) })
	top := 0
	f.eachBit(func(bit, imm int) {
		i.Imm |= int64(word>>bit&1) << imm
		top = max(top, imm)
	})
	if i.Imm > f.most {
		i.Imm -= 1 << (top + 1)
	}
	return i
}

// refusal: what Encode must refuse with, OK if with nothing.
func (r row) refusal(i api.Insn) (at int, reason api.Errno) {
	f := forms[r.shape]
	most := func(has bool, greatest int) int {
		if has {
			return greatest
		}
		return 0
	}
	switch {
	case i.Rd < 0 || i.Rd > most(f.rd, 31):
		return 1, api.ErrInsnReg
	case i.Rs1 < 0 || i.Rs1 > most(f.rs1, 31):
		return 2, api.ErrInsnReg
	case i.Rs2 < 0 || i.Rs2 > most(f.rs2, 31):
		return 3, api.ErrInsnReg
	case i.Csr < 0 || i.Csr > most(f.csr, 4095):
		return 5, api.ErrInsnReg
	case i.Imm < f.least || i.Imm > f.most || i.Imm%f.every != 0:
		return 4, api.ErrInsnImm
	}
	return 0, api.OK
}

// checkFault: a refusal is a *api.Fault of this layer, with that place and that reason.
func checkFault(t *testing.T, what string, err error, at int, reason api.Errno) {
	t.Helper()
	f, ok := err.(*api.Fault)
	if !ok || f == nil || f.Layer != "insn" || f.At != at || f.Err != reason {
		t.Errorf("%s: refused with %v, not insn, %d, %v", what, err, at, reason)
	}
}
