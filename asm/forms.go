package asm

import (
	"hartix/api"
	"hartix/insn"
)

// form is an instruction that a statement becomes: what is fixed of it, and where its operands go.
type form struct {
	base  api.Insn
	parts []part
}

// fenceAll is the Imm of a fence between all that is ahead of it and all that is behind it.
const fenceAll = 255

// formOf tells how an operation is written under its own name; that of none has nothing.
func formOf(op int) form {
	f := form{base: api.Insn{Op: op}}
	switch insn.Shape(op) {
	case api.ShapeR:
		f.parts = []part{toRd, toRs1, toRs2}
	case api.ShapeI, api.ShapeH, api.ShapeW:
		f.parts = []part{toRd, toRs1, toImm}
	case api.ShapeL:
		f.parts = []part{toRd, toPlace}
	case api.ShapeS:
		f.parts = []part{toRs2, toPlace}
	case api.ShapeB:
		f.parts = []part{toRs1, toRs2, toTarget}
	case api.ShapeU:
		f.parts = []part{toRd, toUpper}
	case api.ShapeJ:
		f.parts = []part{toRd, toTarget}
	case api.ShapeV:
		f.parts = []part{toRs1, toRs2}
	case api.ShapeC:
		f.parts = []part{toRd, toCsr, toRs1}
	case api.ShapeCI:
		f.parts = []part{toRd, toCsr, toImm}
	}
	switch op {
	case api.OpJALR:
		f.parts = []part{toRd, toPlace}
	case api.OpFENCE:
		f.base.Imm = fenceAll
	}
	return f
}

// insn gives the instruction of a statement of this form.
func (f form) insn(s *statement) api.Insn {
	i := f.base
	for k, p := range f.parts {
		p.slot().put(&i, s.operands[k], s.at)
	}
	return i
}

// shortForms are those of one instruction.
func shortForms() map[string]form {
	return map[string]form{
		"nop":    {base: api.Insn{Op: api.OpADDI}},
		"mv":     {api.Insn{Op: api.OpADDI}, []part{toRd, toRs1}},
		"not":    {api.Insn{Op: api.OpXORI, Imm: -1}, []part{toRd, toRs1}},
		"neg":    {api.Insn{Op: api.OpSUB}, []part{toRd, toRs2}},
		"negw":   {api.Insn{Op: api.OpSUBW}, []part{toRd, toRs2}},
		"sext.w": {api.Insn{Op: api.OpADDIW}, []part{toRd, toRs1}},
		"seqz":   {api.Insn{Op: api.OpSLTIU, Imm: 1}, []part{toRd, toRs1}},
		"snez":   {api.Insn{Op: api.OpSLTU}, []part{toRd, toRs2}},
		"sltz":   {api.Insn{Op: api.OpSLT}, []part{toRd, toRs1}},
		"sgtz":   {api.Insn{Op: api.OpSLT}, []part{toRd, toRs2}},
		"beqz":   {api.Insn{Op: api.OpBEQ}, []part{toRs1, toTarget}},
		"bnez":   {api.Insn{Op: api.OpBNE}, []part{toRs1, toTarget}},
		"bltz":   {api.Insn{Op: api.OpBLT}, []part{toRs1, toTarget}},
		"bgez":   {api.Insn{Op: api.OpBGE}, []part{toRs1, toTarget}},
		"bgtz":   {api.Insn{Op: api.OpBLT}, []part{toRs2, toTarget}},
		"blez":   {api.Insn{Op: api.OpBGE}, []part{toRs2, toTarget}},
		"bgt":    {api.Insn{Op: api.OpBLT}, []part{toRs2, toRs1, toTarget}},
		"ble":    {api.Insn{Op: api.OpBGE}, []part{toRs2, toRs1, toTarget}},
		"bgtu":   {api.Insn{Op: api.OpBLTU}, []part{toRs2, toRs1, toTarget}},
		"bleu":   {api.Insn{Op: api.OpBGEU}, []part{toRs2, toRs1, toTarget}},
		"j":      {api.Insn{Op: api.OpJAL}, []part{toTarget}},
		"jr":     {api.Insn{Op: api.OpJALR}, []part{toRs1}},
		"ret":    {base: api.Insn{Op: api.OpJALR, Rs1: api.RegRA}},
	}
}
