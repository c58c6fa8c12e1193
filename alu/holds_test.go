package alu_test

import (
	"fmt"
	"testing"

	"hartix/alu"
	"hartix/api"
)

// P2.4: every condition, of all pairs; which of below, equal, above it holds for.
func TestHolds(t *testing.T) {
	for _, c := range []struct {
		op                  int
		as                  reading
		below, equal, above bool
	}{
		{api.OpBEQ, asIs, false, true, false},
		{api.OpBNE, asIs, true, false, true},
		{api.OpBLT, asSigned, true, false, false},
		{api.OpBGE, asSigned, false, true, true},
		{api.OpBLTU, asIs, true, false, false},
		{api.OpBGEU, asIs, false, true, true},
	} {
		pairs(func(a, b uint64) {
			want := [3]bool{c.below, c.equal, c.above}[1+c.as.take(a).Cmp(c.as.take(b))]
			if got, err := alu.Holds(c.op, a, b); got != want || err != nil {
				t.Fatalf("Holds(%d, %x, %x) = %v, %v", c.op, a, b, got, err)
			}
		})
	}
}

// P2.4: what is no branch is refused.
func TestHoldsRefuses(t *testing.T) {
	for _, op := range numbersBut(api.OpBEQ, api.OpBNE, api.OpBLT, api.OpBGE, api.OpBLTU, api.OpBGEU) {
		for _, b := range []uint64{0, 1, 1<<64 - 1} {
			holds, err := alu.Holds(op, 1, b)
			checkFault(t, fmt.Sprintf("Holds(%d, 1, %x)", op, b), err, api.ErrAluOp)
			if holds {
				t.Errorf("Holds(%d, 1, %x) is true beside its refusal", op, b)
			}
		}
	}
}
