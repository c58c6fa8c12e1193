package asm

import (
	"maps"

	"hartix/api"
	"hartix/insn"
)

const (
	wordSize   = 4
	registerT1 = 6
	mostZeros  = 65536
	mostAlign  = 12
	// How far an auipc and a number of 12 bits behind it reach.
	leastFar = -1 << 31
	mostFar  = 1<<31 - 2049
)

// row is a statement: what its operands are, and what the passes do with it.
type row struct {
	parts    []part
	many     bool                                    // the last part as often as one likes
	mayStand func(section int, at uint64) bool       // at a place
	first    func(a *assembler, s *statement) uint64 // the first pass's work; tells how many bytes it has
	lay      func(s *statement) []byte               // its bytes
}

func (a *assembler) rowOf(word string) row {
	a.once.Do(a.fillRows)
	r, ok := a.rows[word]
	if !ok {
		giveUp(api.ErrAsmName)
	}
	return r
}

func (a *assembler) fillRows() {
	a.rows = map[string]row{}
	for op := api.OpLUI; op < api.Ops; op++ {
		a.rows[insn.Name(op)] = formRow(formOf(op))
	}
	for name, f := range shortForms() {
		a.rows[name] = formRow(f)
	}
	maps.Copy(a.rows, longForms())
	maps.Copy(a.rows, directives())
}

func formRow(f form) row {
	one := func(s *statement) []api.Insn { return []api.Insn{f.insn(s)} }
	return instructionRow(f.parts, fixedSize(wordSize), one)
}

// longForms are the short forms of more than one instruction.
func longForms() map[string]row {
	return map[string]row{
		"li": instructionRow([]part{toRd, someConstant}, sizeOfLoad, load),
		"la": instructionRow([]part{toRd, someValue}, fixedSize(2*wordSize), func(s *statement) []api.Insn {
			rd := s.operands[0].register
			return far(s, rd, api.Insn{Op: api.OpADDI, Rd: rd})
		}),
		"call": instructionRow([]part{someValue}, fixedSize(2*wordSize), func(s *statement) []api.Insn {
			return far(s, api.RegRA, api.Insn{Op: api.OpJALR, Rd: api.RegRA})
		}),
		"tail": instructionRow([]part{someValue}, fixedSize(2*wordSize), func(s *statement) []api.Insn {
			return far(s, registerT1, api.Insn{Op: api.OpJALR})
		}),
	}
}

func instructionRow(parts []part, first func(*assembler, *statement) uint64, insns func(*statement) []api.Insn) row {
	lay := func(s *statement) []byte { return encoded(insns(s)) }
	return row{parts: parts, mayStand: isPlaceOfCode, first: first, lay: lay}
}

func encoded(insns []api.Insn) []byte {
	var code []byte
	for _, i := range insns {
		word, err := insn.Encode(i)
		// All registers were read: what is refused is a number.
		if err != nil {
			giveUp(api.ErrAsmRange)
		}
		code = append(code, lowFirst(uint64(word), wordSize)...)
	}
	return code
}

func load(s *statement) []api.Insn { return Load(s.operands[1].value, s.operands[0].register) }

func sizeOfLoad(_ *assembler, s *statement) uint64 { return uint64(wordSize * len(load(s))) }

// far gives an auipc of a register and behind it an instruction that adds to it, so that both together reach the last operand.
func far(s *statement, base int, second api.Insn) []api.Insn {
	d := int64(s.operands[len(s.operands)-1].value - s.at)
	if d < leastFar || d > mostFar {
		giveUp(api.ErrAsmRange)
	}
	second.Rs1, second.Imm = base, lowOf(d)
	return []api.Insn{{Op: api.OpAUIPC, Rd: base, Imm: d - lowOf(d)}, second}
}

func fixedSize(n uint64) func(*assembler, *statement) uint64 {
	return func(*assembler, *statement) uint64 { return n }
}

func isPlaceOfCode(section int, at uint64) bool { return section == inText && at%wordSize == 0 }
