package alu_test

import (
	"fmt"
	"math/big"
	"testing"

	"hartix/alu"
	"hartix/api"
)

func whole(n api.Wide) *big.Int { return sum(product(asIs.take(n.High), power(64)), asIs.take(n.Low)) }

// P2.6: the product of 128 bits.
func TestMul(t *testing.T) {
	pairs(func(a, b uint64) {
		if got, want := whole(alu.Mul(a, b)), product(asIs.take(a), asIs.take(b)); got.Cmp(want) != 0 {
			t.Fatalf("Mul(%x, %x) = %x, not %x", a, b, got, want)
		}
	})
}

// checkDivide holds Divide against the chapter: what it refuses, and what it gives.
func checkDivide(t *testing.T, n api.Wide, d uint64) {
	t.Helper()
	q, r, err := alu.Divide(n, d)
	if d == 0 || floored(whole(n), asIs.take(d)).Cmp(power(64)) >= 0 {
		checkFault(t, fmt.Sprintf("Divide(%x, %x)", n, d), err, api.ErrAluDiv)
		if q != 0 || r != 0 {
			t.Errorf("Divide(%x, %x) gives %x, %x beside its refusal", n, d, q, r)
		}
		return
	}
	wantQ, wantR := new(big.Int).QuoRem(whole(n), asIs.take(d), new(big.Int))
	if q != wantQ.Uint64() || r != wantR.Uint64() || err != nil {
		t.Errorf("Divide(%x, %x) = %x, %x, %v; not %x, %x", n, d, q, r, err, wantQ, wantR)
	}
}

// P2.7: divisors at the edges, with High far below, one below, at and above them.
func TestDivide(t *testing.T) {
	for _, d := range words() {
		for _, high := range []uint64{0, 1, d / 2, d - 2, d - 1, d, d + 1, d * 2, 1<<64 - 1} {
			for _, low := range words() {
				checkDivide(t, api.Wide{High: high, Low: low}, d)
			}
		}
	}
}

// P2.7: wide numbers all over the range, by divisors above High and by others.
func TestDivideScattered(t *testing.T) {
	scatter(5000, func(a, b uint64) {
		scattered := a*b ^ a>>7
		checkDivide(t, api.Wide{High: a, Low: scattered}, b)
		checkDivide(t, api.Wide{High: min(a, b), Low: scattered}, max(a, b))
		checkDivide(t, api.Wide{High: min(a, b), Low: scattered}, max(a, b)|1<<63)
		if t.Failed() {
			t.FailNow()
		}
	})
}

// P2.8: a product divided by one of its two is the other one, and nothing is left.
func TestMultipliedAndDivided(t *testing.T) {
	pairs(func(a, b uint64) {
		if b == 0 {
			return
		}
		if q, r, err := alu.Divide(alu.Mul(a, b), b); q != a || r != 0 || err != nil {
			t.Fatalf("Divide(Mul(%x, %x)) = %x, %x, %v", a, b, q, r, err)
		}
	})
}
