package alu_test

import (
	"testing"

	"hartix/alu"
	"hartix/api"
)

// The rows of the chapter's section Examples that ask Do.
func TestExamplesDo(t *testing.T) {
	for _, c := range []struct {
		op         int
		a, b, want uint64
	}{
		{api.OpDIV, minus(7), 2, minus(3)},
		{api.OpREM, minus(7), 2, minus(1)},
		{api.OpDIV, 5, 0, 1<<64 - 1},
		{api.OpREM, 5, 0, 5},
		{api.OpDIV, minus(1 << 63), minus(1), 1 << 63},
		{api.OpREM, minus(1 << 63), minus(1), 0},
		{api.OpMULH, minus(1), minus(1), 0},
		{api.OpMULHU, 1<<64 - 1, 1<<64 - 1, 1<<64 - 2},
		{api.OpMULHSU, minus(1), 1<<64 - 1, 1<<64 - 1},
		{api.OpSRAW, 0x80000000, 4, 0xFFFFFFFFF8000000},
		{api.OpSRLW, 0x80000000, 4, 0x08000000},
		{api.OpSRLW, 0x80000000, 0, 0xFFFFFFFF80000000},
		{api.OpDIVUW, 0xFFFFFFFF, 1, 1<<64 - 1},
		{api.OpREMUW, 0xFFFFFFFF, 0, 1<<64 - 1},
	} {
		if v := do(t, c.op, c.a, c.b); v != c.want {
			t.Errorf("Do(%d, %x, %x) = %x, not %x", c.op, c.a, c.b, v, c.want)
		}
	}
}

// The row of loads and stores.
func TestExamplesAccesses(t *testing.T) {
	for _, c := range []struct {
		ask     func(op int, v uint64) (uint64, error)
		op      int
		v, want uint64
	}{
		{alu.Extend, api.OpLB, 0x1FF, 1<<64 - 1},
		{alu.Extend, api.OpLBU, 0x1FF, 0xFF},
		{alu.Keep, api.OpSH, 0x12345, 0x2345},
	} {
		if v, err := c.ask(c.op, c.v); v != c.want || err != nil {
			t.Errorf("%d of %x: %x, %v; not %x", c.op, c.v, v, err, c.want)
		}
	}
}
