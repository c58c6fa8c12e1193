package alu_test

import (
	"fmt"
	"math/big"
	"testing"

	"hartix/alu"
	"hartix/api"
)

func do(t *testing.T, op int, a, b uint64) uint64 {
	t.Helper()
	v, err := alu.Do(op, a, b)
	if err != nil {
		t.Fatalf("Do(%d, %x, %x) refuses: %v", op, a, b, err)
	}
	return v
}

// P2.1: every operation, by the chapter's table.
func TestDo(t *testing.T) {
	for _, r := range chapter() {
		pairs(func(a, b uint64) {
			if got, want := do(t, r.op, a, b), r.answer(a, b); got != want {
				t.Fatalf("Do(%d, %x, %x) = %x, not %x", r.op, a, b, got, want)
			}
		})
	}
}

// P2.1: every amount that a shift can have, and the same ones with bits above them that it must not see.
func TestDoEveryShift(t *testing.T) {
	for _, r := range chapter() {
		if r.b != asShift && r.b != asHalfShift {
			continue
		}
		for amount := range uint64(200) {
			for _, a := range words() {
				for _, above := range []uint64{0, 1 << 8, 1 << 32, 1 << 63, 0xFFFFFFFFFFFFFF00} {
					b := amount | above
					if got, want := do(t, r.op, a, b), r.answer(a, b); got != want {
						t.Fatalf("Do(%d, %x, %x) = %x, not %x", r.op, a, b, got, want)
					}
				}
			}
		}
	}
}

// P2.1: b 0, and the one case that overflows, of each division, with upper halves that those of 32 bits must not see.
func TestDoDivisionsWithoutAQuotient(t *testing.T) {
	const all = 1<<64 - 1
	half := func(word uint64) uint64 { return uint64(int64(int32(word))) }
	for _, a := range words() {
		for _, c := range []struct {
			op      int
			b, want uint64
		}{
			{api.OpDIV, 0, all}, {api.OpREM, 0, a}, {api.OpDIVU, 0, all}, {api.OpREMU, 0, a},
			{api.OpDIVW, 0, all}, {api.OpREMW, 0, half(a)}, {api.OpDIVUW, 0, all}, {api.OpREMUW, 0, half(a)},
			{api.OpDIVW, 1 << 32, all}, {api.OpREMW, 1 << 63, half(a)}, {api.OpDIVUW, minus(1 << 32), all}, {api.OpREMUW, 1 << 40, half(a)},
		} {
			if got := do(t, c.op, a, c.b); got != c.want {
				t.Errorf("Do(%d, %x, %x) = %x, not %x", c.op, a, c.b, got, c.want)
			}
		}
	}
	if q, r := do(t, api.OpDIV, 1<<63, all), do(t, api.OpREM, 1<<63, all); q != 1<<63 || r != 0 {
		t.Errorf("-2^63 by -1: %x, %x", q, r)
	}
	for _, upper := range []uint64{0, 1, 0x7FFFFFFF, 0x80000000, 0xFFFFFFFF} {
		for _, other := range []uint64{0, 1, 0x80000000, 0xFFFFFFFF} {
			a, b := upper<<32|0x80000000, other<<32|0xFFFFFFFF
			if q, r := do(t, api.OpDIVW, a, b), do(t, api.OpREMW, a, b); q != minus(1<<31) || r != 0 {
				t.Errorf("-2^31 by -1 of the halves of %x and %x: %x, %x", a, b, q, r)
			}
		}
	}
}

// P2.2: quotient and remainder make the dividend up, and the remainder is less than the divisor.
func TestQuotientAndRemainder(t *testing.T) {
	for _, c := range []struct {
		div, rem int
		as       reading
		bits     int
	}{
		{api.OpDIV, api.OpREM, asSigned, 64}, {api.OpDIVU, api.OpREMU, asIs, 64},
		{api.OpDIVW, api.OpREMW, asSignedHalf, 32}, {api.OpDIVUW, api.OpREMUW, asHalf, 32},
	} {
		signed := c.as == asSigned || c.as == asSignedHalf
		pairs(func(a, b uint64) {
			q, r := do(t, c.div, a, b), do(t, c.rem, a, b)
			made := sum(product(asIs.take(q), asIs.take(b)), asIs.take(r))
			if modulo(difference(made, asIs.take(a)), c.bits).Sign() != 0 {
				t.Fatalf("%d and %d of %x by %x: %x, %x do not make it up", c.div, c.rem, a, b, q, r)
			}
			divisor := c.as.take(b)
			least := new(big.Int).Neg(power(c.bits - 1))
			overflows := signed && c.as.take(a).Cmp(least) == 0 && divisor.Cmp(big.NewInt(-1)) == 0
			if divisor.Sign() != 0 && !overflows && c.as.take(r).CmpAbs(divisor) >= 0 {
				t.Fatalf("%d of %x by %x: the remainder %x is not below", c.rem, a, b, r)
			}
		})
	}
}

// P2.3: other upper halves change nothing, and the result is a half that is widened.
func TestHalvesAlone(t *testing.T) {
	for _, r := range chapter() {
		if !r.widen {
			continue
		}
		pairs(func(a, b uint64) {
			got := do(t, r.op, a, b)
			if n := int64(got); n < -1<<31 || n > 1<<31-1 {
				t.Fatalf("Do(%d, %x, %x) = %x is no half", r.op, a, b, got)
			}
			for _, upper := range []uint64{0, 1, 1 << 31, 0xDEADBEEF, 0xFFFFFFFF} {
				other := do(t, r.op, a&0xFFFFFFFF|upper<<32, b&0xFFFFFFFF|upper<<32)
				if other != got {
					t.Fatalf("Do(%d, %x, %x) = %x, but %x with upper halves %x", r.op, a, b, got, other, upper)
				}
			}
		})
	}
}

// P2.1: what the table does not have, the operations with Imm too, is refused.
func TestDoRefuses(t *testing.T) {
	var taken []int
	for _, r := range chapter() {
		taken = append(taken, r.op)
	}
	for _, op := range numbersBut(taken...) {
		for _, w := range []uint64{0, 5, 1<<64 - 1} {
			v, err := alu.Do(op, w, w)
			checkFault(t, fmt.Sprintf("Do(%d, %x, %x)", op, w, w), err, api.ErrAluOp)
			if v != 0 {
				t.Errorf("Do(%d) gives %x beside its refusal", op, v)
			}
		}
	}
}

// DOC.md, Memory: every refusal is a fault of its own.
func TestFaultsAreNew(t *testing.T) {
	ask := []func() error{
		func() error { _, err := alu.Do(0, 1, 1); return err },
		func() error { _, err := alu.Holds(0, 1, 1); return err },
		func() error { _, err := alu.Extend(0, 1); return err },
		func() error { _, err := alu.Keep(0, 1); return err },
		func() error { _, _, err := alu.Divide(api.Wide{}, 0); return err },
	}
	for k, f := range ask {
		first, ok := f().(*api.Fault)
		if !ok || first == nil {
			t.Fatalf("%d: no fault", k)
		}
		was := *first
		*first = api.Fault{}
		if second, ok := f().(*api.Fault); !ok || second == first || *second != was {
			t.Errorf("%d: the second fault is %v", k, second)
		}
	}
}
