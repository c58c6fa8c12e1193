package asm

import (
	"strconv"

	"hartix/api"
	"hartix/insn"
)

// part is what an operand is: a field of an instruction, or what a directive takes.
type part int

const (
	toRd part = iota
	toRs1
	toRs2
	toImm
	toCsr
	toPlace  // Imm and Rs1
	toTarget // Imm is its distance
	toUpper  // Imm's upper 20 bits
	someValue
	someConstant
	someText
	someName
)

// The ranges of a number of 20 bits, signed or not.
const (
	leastUpper = -1 << 19
	mostUpper  = 1<<20 - 1
)

// slot is how an operand is read, how it goes into the instruction that stands at a place, and how it is told of one.
type slot struct {
	read func(text string) operand
	put  func(i *api.Insn, o operand, at uint64)
	tell func(i api.Insn, at uint64) string
}

func (p part) slot() slot {
	return [...]slot{
		toRd: {readRegister,
			func(i *api.Insn, o operand, _ uint64) { i.Rd = o.register },
			func(i api.Insn, _ uint64) string { return insn.RegName(i.Rd) }},
		toRs1: {readRegister,
			func(i *api.Insn, o operand, _ uint64) { i.Rs1 = o.register },
			func(i api.Insn, _ uint64) string { return insn.RegName(i.Rs1) }},
		toRs2: {readRegister,
			func(i *api.Insn, o operand, _ uint64) { i.Rs2 = o.register },
			func(i api.Insn, _ uint64) string { return insn.RegName(i.Rs2) }},
		toImm: {readSum,
			func(i *api.Insn, o operand, _ uint64) { i.Imm = int64(o.value) },
			func(i api.Insn, _ uint64) string { return decimal(i.Imm) }},
		toCsr: {readSum,
			func(i *api.Insn, o operand, _ uint64) { i.Csr = int(o.value) },
			func(i api.Insn, _ uint64) string { return strconv.Itoa(i.Csr) }},
		toPlace: {readPlace,
			func(i *api.Insn, o operand, _ uint64) { i.Imm, i.Rs1 = int64(o.value), o.register },
			func(i api.Insn, _ uint64) string { return decimal(i.Imm) + "(" + insn.RegName(i.Rs1) + ")" }},
		toTarget: {readSum,
			func(i *api.Insn, o operand, at uint64) { i.Imm = int64(o.value - at) },
			func(i api.Insn, at uint64) string { return decimal(int64(at) + i.Imm) }},
		toUpper:      {readSum, putUpper, tellUpper},
		someValue:    {read: readSum},
		someConstant: {read: readConstant},
		someText:     {read: readText},
		someName:     {read: readName},
	}[p]
}

func putUpper(i *api.Insn, o operand, _ uint64) {
	v := int64(o.value)
	if v < leastUpper || v > mostUpper {
		giveUp(api.ErrAsmRange)
	}
	i.Imm = int64(int32(v << lowBits))
}

func tellUpper(i api.Insn, _ uint64) string { return decimal(i.Imm >> lowBits & mostUpper) }

func decimal(n int64) string { return strconv.FormatInt(n, 10) }
