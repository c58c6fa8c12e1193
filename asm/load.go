package asm

import (
	"math/bits"

	"hartix/api"
)

const (
	registers = 32
	lowBits   = 12 // of a number: those that addi adds
)

// Load tells the instructions that bring a value into a register (P6.3).
func Load(value uint64, rd int) []api.Insn {
	if rd < 0 || rd >= registers {
		return nil
	}
	v := int64(value)
	low := lowOf(v)
	if v == low {
		return []api.Insn{{Op: api.OpADDI, Rd: rd, Imm: v}}
	}
	if v == int64(int32(v)) {
		upper := api.Insn{Op: api.OpLUI, Rd: rd, Imm: int64(int32(v - low))}
		return addLow([]api.Insn{upper}, api.OpADDIW, rd, low)
	}
	high := (v - low) >> lowBits
	zeros := bits.TrailingZeros64(uint64(high))
	shift := api.Insn{Op: api.OpSLLI, Rd: rd, Rs1: rd, Imm: int64(lowBits + zeros)}
	return addLow(append(Load(uint64(high>>zeros), rd), shift), api.OpADDI, rd, low)
}

// lowOf gives the lower 12 bits as a signed number.
func lowOf(v int64) int64 { return v << (64 - lowBits) >> (64 - lowBits) }

func addLow(insns []api.Insn, op, rd int, low int64) []api.Insn {
	if low == 0 {
		return insns
	}
	return append(insns, api.Insn{Op: op, Rd: rd, Rs1: rd, Imm: low})
}
