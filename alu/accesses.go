package alu

import "hartix/api"

// access is a load or a store: extend is nil of a store, keep of a load.
type access struct {
	number int
	bytes  int
	extend func(word uint64, bits int) uint64
	keep   func(word uint64, bits int) uint64
}

// accessOf tells the row of a load or store, the zero row of what is neither.
func accessOf(op int) access {
	for _, row := range [...]access{
		{api.OpLB, 1, widen, nil},
		{api.OpLH, 2, widen, nil},
		{api.OpLW, 4, widen, nil},
		{api.OpLD, 8, widen, nil},
		{api.OpLBU, 1, cut, nil},
		{api.OpLHU, 2, cut, nil},
		{api.OpLWU, 4, cut, nil},
		{api.OpSB, 1, nil, cut},
		{api.OpSH, 2, nil, cut},
		{api.OpSW, 4, nil, cut},
		{api.OpSD, 8, nil, cut},
	} {
		if row.number == op {
			return row
		}
	}
	return access{}
}
