package alu_test

// What the chapter says, read a second time and in whole numbers without a width, so that the tests do not lean on the code they test.

import (
	"math"
	"math/big"
	"testing"

	"hartix/api"
)

// reading is how an operand is taken.
type reading int

const (
	asIs reading = iota
	asSigned
	asHalf       // the low 32 bits as they are
	asSignedHalf // the low 32 bits as they are signed
	asShift      // the low 6 bits
	asHalfShift  // the low 5 bits
)

func (r reading) take(word uint64) *big.Int {
	n := new(big.Int).SetUint64(word)
	switch r {
	case asSigned:
		return signedNumber(n, 64)
	case asHalf:
		return modulo(n, 32)
	case asSignedHalf:
		return signedNumber(n, 32)
	case asShift:
		return modulo(n, 6)
	case asHalfShift:
		return modulo(n, 5)
	}
	return n
}

func power(bits int) *big.Int { return new(big.Int).Lsh(big.NewInt(1), uint(bits)) }

func modulo(n *big.Int, bits int) *big.Int { return new(big.Int).Mod(n, power(bits)) }

func signedNumber(n *big.Int, bits int) *big.Int {
	low := modulo(n, bits)
	if low.Cmp(power(bits-1)) >= 0 {
		low.Sub(low, power(bits))
	}
	return low
}

// wordOf: a whole number modulo 2^64.
func wordOf(n *big.Int) uint64 { return modulo(n, 64).Uint64() }

// rule is a row of the chapter's table: how a and b are taken, what is reckoned, and whether the result's low 32 bits are widened.
type rule struct {
	op    int
	a, b  reading
	do    func(a, b *big.Int) *big.Int
	widen bool
}

func (r rule) answer(a, b uint64) uint64 {
	n := r.do(r.a.take(a), r.b.take(b))
	if r.widen {
		n = signedNumber(n, 32)
	}
	return wordOf(n)
}

func sum(a, b *big.Int) *big.Int        { return new(big.Int).Add(a, b) }
func difference(a, b *big.Int) *big.Int { return new(big.Int).Sub(a, b) }
func product(a, b *big.Int) *big.Int    { return new(big.Int).Mul(a, b) }
func highHalf(a, b *big.Int) *big.Int   { return floored(product(a, b), power(64)) }
func floored(a, b *big.Int) *big.Int    { return new(big.Int).Div(a, b) }
func timesPower(a, b *big.Int) *big.Int { return product(a, power(int(b.Int64()))) }
func overPower(a, b *big.Int) *big.Int  { return floored(a, power(int(b.Int64()))) }
func xored(a, b *big.Int) *big.Int      { return new(big.Int).Xor(a, b) }
func ored(a, b *big.Int) *big.Int       { return new(big.Int).Or(a, b) }
func anded(a, b *big.Int) *big.Int      { return new(big.Int).And(a, b) }

func oneIfBelow(a, b *big.Int) *big.Int {
	if a.Cmp(b) < 0 {
		return big.NewInt(1)
	}
	return new(big.Int)
}

func cutQuotient(a, b *big.Int) *big.Int {
	if b.Sign() == 0 {
		return big.NewInt(-1)
	}
	return new(big.Int).Quo(a, b)
}

func cutRemainder(a, b *big.Int) *big.Int {
	if b.Sign() == 0 {
		return a
	}
	return new(big.Int).Rem(a, b)
}

func chapter() []rule {
	return []rule{
		{api.OpADD, asIs, asIs, sum, false},
		{api.OpSUB, asIs, asIs, difference, false},
		{api.OpXOR, asIs, asIs, xored, false},
		{api.OpOR, asIs, asIs, ored, false},
		{api.OpAND, asIs, asIs, anded, false},
		{api.OpSLL, asIs, asShift, timesPower, false},
		{api.OpSRL, asIs, asShift, overPower, false},
		{api.OpSRA, asSigned, asShift, overPower, false},
		{api.OpSLT, asSigned, asSigned, oneIfBelow, false},
		{api.OpSLTU, asIs, asIs, oneIfBelow, false},
		{api.OpMUL, asIs, asIs, product, false},
		{api.OpMULH, asSigned, asSigned, highHalf, false},
		{api.OpMULHU, asIs, asIs, highHalf, false},
		{api.OpMULHSU, asSigned, asIs, highHalf, false},
		{api.OpDIV, asSigned, asSigned, cutQuotient, false},
		{api.OpREM, asSigned, asSigned, cutRemainder, false},
		{api.OpDIVU, asIs, asIs, cutQuotient, false},
		{api.OpREMU, asIs, asIs, cutRemainder, false},
		{api.OpADDW, asIs, asIs, sum, true},
		{api.OpSUBW, asIs, asIs, difference, true},
		{api.OpMULW, asIs, asIs, product, true},
		{api.OpSLLW, asHalf, asHalfShift, timesPower, true},
		{api.OpSRLW, asHalf, asHalfShift, overPower, true},
		{api.OpSRAW, asSignedHalf, asHalfShift, overPower, true},
		{api.OpDIVW, asSignedHalf, asSignedHalf, cutQuotient, true},
		{api.OpREMW, asSignedHalf, asSignedHalf, cutRemainder, true},
		{api.OpDIVUW, asHalf, asHalf, cutQuotient, true},
		{api.OpREMUW, asHalf, asHalf, cutRemainder, true},
	}
}

// words: the numbers at which something turns, and such as differ in their upper halves alone.
func words() []uint64 {
	const low = 0x12345678_00000000
	return []uint64{
		0, 1, 2, 3, 4, 5, 7, 10, 30, 31, 32, 33, 62, 63, 64, 65, 95, 96, 127, 128,
		0x7F, 0xFF, 0x100, 0x1FF, 0x7FFF, 0x8000, 0xFFFF, 0x10000, 0x12345,
		0x7FFFFFFF, 0x80000000, 0x80000001, 0xFFFFFFF9, 0xFFFFFFFE, 0xFFFFFFFF, 1 << 32, 1<<32 + 1,
		low, low | 1, low | 3, low | 31, low | 0x7FFFFFFF, low | 0x80000000, low | 0xFFFFFFFF,
		1<<63 | low, 1<<63 | low | 2, 1<<63 | low | 0x80000000, 1<<63 | low | 0xFFFFFFFF,
		1 << 62, 1<<63 - 2, 1<<63 - 1, 1 << 63, 1<<63 + 1, 3 << 62,
		math.MaxUint64, math.MaxUint64 - 1, math.MaxUint64 - 2, math.MaxUint64 - 6,
		minus(1 << 31), minus(1<<31) - 1, minus(1 << 32), minus(1<<32) - 1,
	}
}

func minus(n uint64) uint64 { return -n }

// scatter gives pairs of words all over the range, of all lengths, always the same ones.
func scatter(count int, do func(a, b uint64)) {
	state := uint64(1)
	next := func() uint64 {
		state = state*6364136223846793005 + 1442695040888963407
		return state ^ state>>29
	}
	for range count {
		a, b := next(), next()
		lengths := next()
		do(a, b)
		do(a>>(lengths&63), b>>(lengths>>6&63))
		do(minus(a>>(lengths>>12&63)), minus(b>>(lengths>>18&63)))
	}
}

// pairs gives each word with each, and then scattered ones.
func pairs(do func(a, b uint64)) {
	for _, a := range words() {
		for _, b := range words() {
			do(a, b)
		}
	}
	scatter(4000, do)
}

// numbersBut: the operations from 1 to 76 that are not among the given ones, and numbers that are none.
func numbersBut(taken ...int) []int {
	is := map[int]bool{}
	for _, op := range taken {
		is[op] = true
	}
	numbers := []int{0, -1, -2, api.Ops, api.Ops + 1, 128, -api.OpADD, math.MinInt, math.MaxInt}
	for op := 1; op < api.Ops; op++ {
		if !is[op] {
			numbers = append(numbers, op)
		}
	}
	for _, op := range taken {
		numbers = append(numbers, op+1<<8, op+1<<16, op+1<<32, op-1<<32)
	}
	return numbers
}

// checkFault: a refusal is a *api.Fault of this layer, at 0, with that reason.
func checkFault(t *testing.T, what string, err error, reason api.Errno) {
	t.Helper()
	f, ok := err.(*api.Fault)
	if !ok || f == nil || f.Layer != "alu" || f.At != 0 || f.Err != reason {
		t.Errorf("%s: refused with %v, not alu, 0, %v", what, err, reason)
	}
}
