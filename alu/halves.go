package alu

import "hartix/api"

const halfBits = 32

// halfRow is a row of the chapter's table of Do that is made out of an operation of 64 bits: first and second say what it sees of the two words.
type halfRow struct {
	number int
	do     func(a, b uint64) uint64
	first  func(word uint64) uint64
	second func(word uint64) uint64
}

// halfOperation tells what an operation of 32 bits does, nil of none.
func halfOperation(op int) func(a, b uint64) uint64 {
	for _, row := range [...]halfRow{
		{api.OpADDW, add, signedHalf, signedHalf},
		{api.OpSUBW, subtract, signedHalf, signedHalf},
		{api.OpSLLW, shiftLeft, plainHalf, halfShift},
		{api.OpSRLW, shiftRight, plainHalf, halfShift},
		{api.OpSRAW, shiftRightSigned, signedHalf, halfShift},
		{api.OpMULW, multiply, signedHalf, signedHalf},
		{api.OpDIVW, quotientSigned, signedHalf, signedHalf},
		{api.OpDIVUW, quotient, plainHalf, plainHalf},
		{api.OpREMW, remainderSigned, signedHalf, signedHalf},
		{api.OpREMUW, remainder, plainHalf, plainHalf},
	} {
		if row.number == op {
			// Only here, and not in the rows, so that one function is made and not ten.
			return ofHalves(row.do, row.first, row.second)
		}
	}
	return nil
}

// ofHalves makes an operation of 32 bits out of one of 64.
func ofHalves(do func(a, b uint64) uint64, first, second func(word uint64) uint64) func(a, b uint64) uint64 {
	return func(a, b uint64) uint64 { return widen(do(first(a), second(b)), halfBits) }
}

func signedHalf(word uint64) uint64 { return widen(word, halfBits) }

func plainHalf(word uint64) uint64 { return cut(word, halfBits) }

// halfShift is needed because a shift of 64 bits would look at one bit more.
func halfShift(word uint64) uint64 { return cut(word, 5) }
