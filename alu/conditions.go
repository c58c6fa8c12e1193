package alu

import "hartix/api"

// condition is a branch.
type condition struct {
	number int
	holds  func(a, b uint64) bool
}

// conditionOf tells what a branch asks, nil of what is none.
func conditionOf(op int) func(a, b uint64) bool {
	for _, row := range [...]condition{
		{api.OpBEQ, equal},
		{api.OpBNE, differs},
		{api.OpBLT, belowSigned},
		{api.OpBGE, notBelowSigned},
		{api.OpBLTU, below},
		{api.OpBGEU, notBelow},
	} {
		if row.number == op {
			return row.holds
		}
	}
	return nil
}

func equal(a, b uint64) bool { return a == b }

func differs(a, b uint64) bool { return a != b }

func below(a, b uint64) bool { return a < b }

func notBelow(a, b uint64) bool { return a >= b }

func belowSigned(a, b uint64) bool { return int64(a) < int64(b) }

func notBelowSigned(a, b uint64) bool { return int64(a) >= int64(b) }
