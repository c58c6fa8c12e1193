package hart

import (
	"hartix/alu"
	"hartix/api"
)

// row is what an operation does; like is the operation of layer 2 that one with Imm goes like.
type row struct {
	do   func(s *step) api.Trap
	like int
}

// rowOf tells the row of an operation that Decode gives. What is not for a user's program has the zero row.
func rowOf(op int) row {
	return [api.Ops]row{
		api.OpLUI:   {do: putImm},
		api.OpAUIPC: {do: putPcAndImm},
		api.OpJAL:   {do: jump},
		api.OpJALR:  {do: jumpByRegister},

		api.OpBEQ: {do: branch}, api.OpBNE: {do: branch}, api.OpBLT: {do: branch},
		api.OpBGE: {do: branch}, api.OpBLTU: {do: branch}, api.OpBGEU: {do: branch},

		api.OpLB: {do: load}, api.OpLH: {do: load}, api.OpLW: {do: load}, api.OpLD: {do: load},
		api.OpLBU: {do: load}, api.OpLHU: {do: load}, api.OpLWU: {do: load},
		api.OpSB: {do: store}, api.OpSH: {do: store}, api.OpSW: {do: store}, api.OpSD: {do: store},

		api.OpADDI:  {do: reckonImm, like: api.OpADD},
		api.OpSLTI:  {do: reckonImm, like: api.OpSLT},
		api.OpSLTIU: {do: reckonImm, like: api.OpSLTU},
		api.OpXORI:  {do: reckonImm, like: api.OpXOR},
		api.OpORI:   {do: reckonImm, like: api.OpOR},
		api.OpANDI:  {do: reckonImm, like: api.OpAND},
		api.OpSLLI:  {do: reckonImm, like: api.OpSLL},
		api.OpSRLI:  {do: reckonImm, like: api.OpSRL},
		api.OpSRAI:  {do: reckonImm, like: api.OpSRA},
		api.OpADDIW: {do: reckonImm, like: api.OpADDW},
		api.OpSLLIW: {do: reckonImm, like: api.OpSLLW},
		api.OpSRLIW: {do: reckonImm, like: api.OpSRLW},
		api.OpSRAIW: {do: reckonImm, like: api.OpSRAW},

		api.OpADD: {do: reckon}, api.OpSUB: {do: reckon}, api.OpSLL: {do: reckon}, api.OpSLT: {do: reckon}, api.OpSLTU: {do: reckon},
		api.OpXOR: {do: reckon}, api.OpSRL: {do: reckon}, api.OpSRA: {do: reckon}, api.OpOR: {do: reckon}, api.OpAND: {do: reckon},
		api.OpADDW: {do: reckon}, api.OpSUBW: {do: reckon}, api.OpSLLW: {do: reckon}, api.OpSRLW: {do: reckon}, api.OpSRAW: {do: reckon},

		api.OpMUL: {do: reckon}, api.OpMULH: {do: reckon}, api.OpMULHSU: {do: reckon}, api.OpMULHU: {do: reckon},
		api.OpDIV: {do: reckon}, api.OpDIVU: {do: reckon}, api.OpREM: {do: reckon}, api.OpREMU: {do: reckon},
		api.OpMULW: {do: reckon}, api.OpDIVW: {do: reckon}, api.OpDIVUW: {do: reckon}, api.OpREMW: {do: reckon}, api.OpREMUW: {do: reckon},

		api.OpFENCE:  {do: nothing},
		api.OpFENCEI: {do: nothing},
		api.OpECALL:  {do: call},
		api.OpEBREAK: {do: stop},
	}[op]
}

func putImm(s *step) api.Trap {
	s.put(s.imm())
	return api.Trap{}
}

func putPcAndImm(s *step) api.Trap {
	s.put(s.regs.Pc + s.imm())
	return api.Trap{}
}

func jump(s *step) api.Trap { return linkTo(s, s.regs.Pc+s.imm()) }

func jumpByRegister(s *step) api.Trap { return linkTo(s, (s.a()+s.imm())&^1) }

func linkTo(s *step, target uint64) api.Trap {
	s.put(s.next)
	return s.leadTo(target)
}

// No operation of the table is refused by layer 2 where these functions ask it: so its errors are let go.

func branch(s *step) api.Trap {
	holds, _ := alu.Holds(s.insn.Op, s.a(), s.b())
	if !holds {
		return api.Trap{}
	}
	return s.leadTo(s.regs.Pc + s.imm())
}

func load(s *step) api.Trap {
	raw := s.memory.read(api.Load, s.a()+s.imm(), alu.Bytes(s.insn.Op))
	v, _ := alu.Extend(s.insn.Op, raw)
	s.put(v)
	return api.Trap{}
}

func store(s *step) api.Trap {
	v, _ := alu.Keep(s.insn.Op, s.b())
	s.memory.write(s.a()+s.imm(), alu.Bytes(s.insn.Op), v)
	return api.Trap{}
}

func reckon(s *step) api.Trap {
	v, _ := alu.Do(s.insn.Op, s.a(), s.b())
	s.put(v)
	return api.Trap{}
}

func reckonImm(s *step) api.Trap {
	v, _ := alu.Do(s.row.like, s.a(), s.imm())
	s.put(v)
	return api.Trap{}
}

func nothing(*step) api.Trap { return api.Trap{} }

func call(*step) api.Trap { return trapFor(api.CauseCall, 0) }

func stop(s *step) api.Trap { return trapFor(api.CauseBreak, s.regs.Pc) }
