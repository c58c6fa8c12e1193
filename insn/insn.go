// Package insn: layer 1: the instructions of RV64IM and Zicsr as words and back, and their names. See shared/doc/01-insn.md.
package insn

import "hartix/api"

// The places that a fault tells.
const (
	atOp = iota
	atRd
	atRs1
	atRs2
	atImm
	atCsr
)

func fault(at int, reason api.Errno) error {
	return &api.Fault{Layer: "insn", At: at, Err: reason}
}

// Decode reads a word (P1.2).
func Decode(word uint32) (api.Insn, error) {
	op := operationOfWord(word)
	if op == api.OpNone {
		return api.Insn{}, fault(atOp, api.ErrInsnWord)
	}
	shape := Shape(op)
	i := numberedFields(shape, word)
	i.Op = op
	i.Imm = layoutOf(shape).takeImm(word)
	return i, nil
}

// operationOfWord may stop at the first that agrees: no word is one of two operations.
func operationOfWord(word uint32) int {
	for op := api.OpLUI; op < api.Ops; op++ {
		row := operationOf(op)
		differs := row.word ^ word
		// The opcode is looked at first because it rules nearly all rows out, and cheaply.
		if differs&opcodeBits == 0 && differs&layoutOf(row.shape).fixedBits == 0 {
			return op
		}
	}
	return api.OpNone
}

// Encode lays an instruction down (P1.3).
func Encode(i api.Insn) (uint32, error) {
	row := operationOf(i.Op)
	if row.shape == 0 {
		return 0, fault(atOp, api.ErrInsnOp)
	}
	if at := wrongField(i, row.shape); at != 0 {
		return 0, fault(at, api.ErrInsnReg)
	}
	shape := layoutOf(row.shape)
	imm := shape.putImm(i.Imm)
	// What a word can't hold does not come back as it was: so no range is written down a second time.
	if shape.takeImm(imm) != i.Imm {
		return 0, fault(atImm, api.ErrInsnImm)
	}
	// Nothing needs to be left out here: a field that the shape does not have is 0 by now.
	return row.word | putNumberedFields(i) | imm, nil
}

// wrongField tells the place of the first field but Imm that may not be, 0 if there is none.
func wrongField(i api.Insn, shape int) int {
	// A word of ones has the greatest number in each field of the shape, and 0 stands for those that it lacks.
	most := numberedFields(shape, allBits)
	switch {
	case i.Rd < 0 || i.Rd > most.Rd:
		return atRd
	case i.Rs1 < 0 || i.Rs1 > most.Rs1:
		return atRs1
	case i.Rs2 < 0 || i.Rs2 > most.Rs2:
		return atRs2
	case i.Csr < 0 || i.Csr > most.Csr:
		return atCsr
	}
	return 0
}

// Shape tells an operation's shape, 0 of none (P1.1).
func Shape(op int) int { return operationOf(op).shape }

// Reads tells which registers an instruction looks at, rising (P1.5).
func Reads(i api.Insn) []int {
	if !usesRegisters(i) {
		return nil
	}
	var read []int
	low, high := min(i.Rs1, i.Rs2), max(i.Rs1, i.Rs2)
	if low != 0 {
		read = append(read, low)
	}
	if high != low {
		read = append(read, high)
	}
	return read
}

// Writes tells which register an instruction writes, 0 if none (P1.5).
func Writes(i api.Insn) int {
	if !usesRegisters(i) {
		return 0
	}
	return i.Rd
}

// usesRegisters tells whether the register fields of an instruction count: a fence has them, but leaves registers alone.
func usesRegisters(i api.Insn) bool {
	_, err := Encode(i)
	return err == nil && Shape(i.Op) != api.ShapeF
}
