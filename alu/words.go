package alu

import "hartix/api"

const (
	wordBits = 64
	ones     = 1<<wordBits - 1
)

// wordRow is a row of the chapter's table of Do that is an operation of 64 bits.
type wordRow struct {
	number int
	do     func(a, b uint64) uint64
}

// wordOperation tells what an operation of 64 bits does, nil of none.
func wordOperation(op int) func(a, b uint64) uint64 {
	for _, row := range [...]wordRow{
		{api.OpADD, add},
		{api.OpSUB, subtract},
		{api.OpSLL, shiftLeft},
		{api.OpSLT, setBelowSigned},
		{api.OpSLTU, setBelow},
		{api.OpXOR, bitXor},
		{api.OpSRL, shiftRight},
		{api.OpSRA, shiftRightSigned},
		{api.OpOR, bitOr},
		{api.OpAND, bitAnd},
		{api.OpMUL, multiply},
		{api.OpMULH, highSigned},
		{api.OpMULHSU, highMixed},
		{api.OpMULHU, high},
		{api.OpDIV, quotientSigned},
		{api.OpDIVU, quotient},
		{api.OpREM, remainderSigned},
		{api.OpREMU, remainder},
	} {
		if row.number == op {
			return row.do
		}
	}
	return nil
}

// widen takes the lowest bits of a word as a signed number: the highest of them goes on above them.
func widen(word uint64, bits int) uint64 {
	above := wordBits - bits
	return uint64(int64(word<<above) >> above)
}

// cut takes the lowest bits of a word as they are: zeros go on above them.
func cut(word uint64, bits int) uint64 {
	above := wordBits - bits
	return word << above >> above
}

func add(a, b uint64) uint64 { return a + b }

func subtract(a, b uint64) uint64 { return a - b }

func bitXor(a, b uint64) uint64 { return a ^ b }

func bitOr(a, b uint64) uint64 { return a | b }

func bitAnd(a, b uint64) uint64 { return a & b }

func shiftLeft(a, b uint64) uint64 { return a << cut(b, 6) }

func shiftRight(a, b uint64) uint64 { return a >> cut(b, 6) }

func shiftRightSigned(a, b uint64) uint64 { return uint64(int64(a) >> cut(b, 6)) }

func setBelow(a, b uint64) uint64 { return oneIf(below(a, b)) }

func setBelowSigned(a, b uint64) uint64 { return oneIf(belowSigned(a, b)) }

func oneIf(holds bool) uint64 {
	if holds {
		return 1
	}
	return 0
}

func multiply(a, b uint64) uint64 { return a * b }

func high(a, b uint64) uint64 { return Mul(a, b).High }

// highMixed: a below 0 is 2^64 less than it looks, which takes b times 2^64 off the product, and so b off its high half.
func highMixed(a, b uint64) uint64 { return high(a, b) - b*oneIf(int64(a) < 0) }

// highSigned takes off for b what highMixed takes off for a.
func highSigned(a, b uint64) uint64 { return highMixed(a, b) - a*oneIf(int64(b) < 0) }

func quotient(a, b uint64) uint64 {
	if b == 0 {
		return ones
	}
	return a / b
}

func remainder(a, b uint64) uint64 {
	if b == 0 {
		return a
	}
	return a % b
}

// quotientSigned needs no case for -2^63 by -1: signed division wraps round to just what is asked for; so does that of remainderSigned.
func quotientSigned(a, b uint64) uint64 {
	if b == 0 {
		return ones
	}
	return uint64(int64(a) / int64(b))
}

func remainderSigned(a, b uint64) uint64 {
	if b == 0 {
		return a
	}
	return uint64(int64(a) % int64(b))
}
