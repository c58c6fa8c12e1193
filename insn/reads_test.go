package insn_test

import (
	"slices"
	"testing"

	"hartix/api"
	"hartix/insn"
)

// checkReads holds Reads and Writes of an instruction against P1.5.
func checkReads(t *testing.T, r row, i api.Insn, taken bool) {
	t.Helper()
	var reads []int
	writes := 0
	if taken && r.shape != "F" {
		f := forms[r.shape]
		for n := 1; n < 32; n++ {
			if f.rs1 && i.Rs1 == n || f.rs2 && i.Rs2 == n {
				reads = append(reads, n)
			}
		}
		if f.rd {
			writes = i.Rd
		}
	}
	got := insn.Reads(i)
	if !slices.Equal(got, reads) || len(got) == 0 && got != nil {
		t.Errorf("Reads(%+v) = %#v, not %v", i, got, reads)
	}
	if w := insn.Writes(i); w != writes {
		t.Errorf("Writes(%+v) = %d, not %d", i, w, writes)
	}
}

// P1.5: ordinary instructions of each kind.
func TestReadsAndWrites(t *testing.T) {
	for _, c := range []struct {
		i      api.Insn
		reads  []int
		writes int
	}{
		{api.Insn{Op: api.OpADD, Rd: 3, Rs1: 9, Rs2: 2}, []int{2, 9}, 3},
		{api.Insn{Op: api.OpADD, Rd: 3, Rs1: 2, Rs2: 9}, []int{2, 9}, 3},
		{api.Insn{Op: api.OpADD, Rd: 3, Rs1: 9, Rs2: 9}, []int{9}, 3},
		{api.Insn{Op: api.OpADD, Rs1: 0, Rs2: 9}, []int{9}, 0},
		{api.Insn{Op: api.OpADD, Rd: 31, Rs1: 31, Rs2: 0}, []int{31}, 31},
		{api.Insn{Op: api.OpADD, Rd: 1}, nil, 1},
		{api.Insn{Op: api.OpADD, Rd: 32, Rs1: 9}, nil, 0},
		{api.Insn{Op: api.OpADD, Rd: 3, Rs1: 9, Imm: 1}, nil, 0},
		{api.Insn{Op: api.OpLUI, Rd: 5, Imm: 4096}, nil, 5},
		{api.Insn{Op: api.OpJAL, Rd: 1, Imm: 8}, nil, 1},
		{api.Insn{Op: api.OpJALR, Rd: 1, Rs1: 5}, []int{5}, 1},
		{api.Insn{Op: api.OpLD, Rd: 4, Rs1: 2}, []int{2}, 4},
		{api.Insn{Op: api.OpSD, Rs1: 2, Rs2: 1, Imm: 8}, []int{1, 2}, 0},
		{api.Insn{Op: api.OpBEQ, Rs1: 7, Rs2: 6}, []int{6, 7}, 0},
		{api.Insn{Op: api.OpSLLI, Rd: 8, Rs1: 6, Imm: 63}, []int{6}, 8},
		{api.Insn{Op: api.OpSLLIW, Rd: 8, Rs1: 6, Imm: 32}, nil, 0},
		{api.Insn{Op: api.OpFENCE, Rd: 3, Rs1: 4, Imm: 255}, nil, 0},
		{api.Insn{Op: api.OpFENCEI, Rd: 3, Rs1: 4}, nil, 0},
		{api.Insn{Op: api.OpECALL}, nil, 0},
		{api.Insn{Op: api.OpECALL, Rd: 1}, nil, 0},
		{api.Insn{Op: api.OpSFENCE, Rs1: 8, Rs2: 7}, []int{7, 8}, 0},
		{api.Insn{Op: api.OpCSRRW, Rd: 9, Rs1: 8, Csr: 1}, []int{8}, 9},
		{api.Insn{Op: api.OpCSRRWI, Rd: 9, Imm: 8, Csr: 1}, nil, 9},
	} {
		got := insn.Reads(c.i)
		if !slices.Equal(got, c.reads) || c.reads == nil && got != nil || insn.Writes(c.i) != c.writes {
			t.Errorf("%+v: Reads %#v, Writes %d; not %v, %d", c.i, got, insn.Writes(c.i), c.reads, c.writes)
		}
	}
}

// DOC.md, Memory: an answer is new memory, spare room included.
func TestReadsAreNew(t *testing.T) {
	i := api.Insn{Op: api.OpADD, Rd: 3, Rs1: 9, Rs2: 2}
	first, second := insn.Reads(i), insn.Reads(i)
	all := first[:cap(first)]
	for k := range all {
		all[k] = -1
	}
	if want := []int{2, 9}; !slices.Equal(second, want) || !slices.Equal(insn.Reads(i), want) {
		t.Errorf("Reads = %v and %v behind a change of the first answer", second, insn.Reads(i))
	}
}
