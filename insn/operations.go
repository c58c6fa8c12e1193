package insn

import "hartix/api"

const (
	funct3At = 12
	funct7At = 25
)

// operation is a row of the chapter's table: opcode, funct3 and funct7 stand in the word that has them and 0 elsewhere.
type operation struct {
	name  string
	shape int
	word  uint32
}

// operationOf tells an operation's row, the zero row of none.
func operationOf(op int) operation {
	switch {
	case op < api.OpLUI || op >= api.Ops:
		return operation{}
	case op < api.OpMUL:
		return baseOperation(op)
	}
	return laterOperation(op)
}

// baseOperation holds the rows ahead of those of M; they are apart because all rows are too many for one function.
func baseOperation(op int) operation {
	return [api.OpMUL]operation{
		api.OpLUI:   {"lui", api.ShapeU, 0x37},
		api.OpAUIPC: {"auipc", api.ShapeU, 0x17},
		api.OpJAL:   {"jal", api.ShapeJ, 0x6F},
		api.OpJALR:  {"jalr", api.ShapeI, 0x67 | 0<<funct3At},
		api.OpBEQ:   {"beq", api.ShapeB, 0x63 | 0<<funct3At},
		api.OpBNE:   {"bne", api.ShapeB, 0x63 | 1<<funct3At},
		api.OpBLT:   {"blt", api.ShapeB, 0x63 | 4<<funct3At},
		api.OpBGE:   {"bge", api.ShapeB, 0x63 | 5<<funct3At},
		api.OpBLTU:  {"bltu", api.ShapeB, 0x63 | 6<<funct3At},
		api.OpBGEU:  {"bgeu", api.ShapeB, 0x63 | 7<<funct3At},
		api.OpLB:    {"lb", api.ShapeL, 0x03 | 0<<funct3At},
		api.OpLH:    {"lh", api.ShapeL, 0x03 | 1<<funct3At},
		api.OpLW:    {"lw", api.ShapeL, 0x03 | 2<<funct3At},
		api.OpLD:    {"ld", api.ShapeL, 0x03 | 3<<funct3At},
		api.OpLBU:   {"lbu", api.ShapeL, 0x03 | 4<<funct3At},
		api.OpLHU:   {"lhu", api.ShapeL, 0x03 | 5<<funct3At},
		api.OpLWU:   {"lwu", api.ShapeL, 0x03 | 6<<funct3At},
		api.OpSB:    {"sb", api.ShapeS, 0x23 | 0<<funct3At},
		api.OpSH:    {"sh", api.ShapeS, 0x23 | 1<<funct3At},
		api.OpSW:    {"sw", api.ShapeS, 0x23 | 2<<funct3At},
		api.OpSD:    {"sd", api.ShapeS, 0x23 | 3<<funct3At},
		api.OpADDI:  {"addi", api.ShapeI, 0x13 | 0<<funct3At},
		api.OpSLTI:  {"slti", api.ShapeI, 0x13 | 2<<funct3At},
		api.OpSLTIU: {"sltiu", api.ShapeI, 0x13 | 3<<funct3At},
		api.OpXORI:  {"xori", api.ShapeI, 0x13 | 4<<funct3At},
		api.OpORI:   {"ori", api.ShapeI, 0x13 | 6<<funct3At},
		api.OpANDI:  {"andi", api.ShapeI, 0x13 | 7<<funct3At},
		api.OpSLLI:  {"slli", api.ShapeH, 0x13 | 1<<funct3At | 0x00<<funct7At},
		api.OpSRLI:  {"srli", api.ShapeH, 0x13 | 5<<funct3At | 0x00<<funct7At},
		api.OpSRAI:  {"srai", api.ShapeH, 0x13 | 5<<funct3At | 0x20<<funct7At},
		api.OpADD:   {"add", api.ShapeR, 0x33 | 0<<funct3At | 0x00<<funct7At},
		api.OpSUB:   {"sub", api.ShapeR, 0x33 | 0<<funct3At | 0x20<<funct7At},
		api.OpSLL:   {"sll", api.ShapeR, 0x33 | 1<<funct3At | 0x00<<funct7At},
		api.OpSLT:   {"slt", api.ShapeR, 0x33 | 2<<funct3At | 0x00<<funct7At},
		api.OpSLTU:  {"sltu", api.ShapeR, 0x33 | 3<<funct3At | 0x00<<funct7At},
		api.OpXOR:   {"xor", api.ShapeR, 0x33 | 4<<funct3At | 0x00<<funct7At},
		api.OpSRL:   {"srl", api.ShapeR, 0x33 | 5<<funct3At | 0x00<<funct7At},
		api.OpSRA:   {"sra", api.ShapeR, 0x33 | 5<<funct3At | 0x20<<funct7At},
		api.OpOR:    {"or", api.ShapeR, 0x33 | 6<<funct3At | 0x00<<funct7At},
		api.OpAND:   {"and", api.ShapeR, 0x33 | 7<<funct3At | 0x00<<funct7At},
		api.OpADDIW: {"addiw", api.ShapeI, 0x1B | 0<<funct3At},
		api.OpSLLIW: {"slliw", api.ShapeW, 0x1B | 1<<funct3At | 0x00<<funct7At},
		api.OpSRLIW: {"srliw", api.ShapeW, 0x1B | 5<<funct3At | 0x00<<funct7At},
		api.OpSRAIW: {"sraiw", api.ShapeW, 0x1B | 5<<funct3At | 0x20<<funct7At},
		api.OpADDW:  {"addw", api.ShapeR, 0x3B | 0<<funct3At | 0x00<<funct7At},
		api.OpSUBW:  {"subw", api.ShapeR, 0x3B | 0<<funct3At | 0x20<<funct7At},
		api.OpSLLW:  {"sllw", api.ShapeR, 0x3B | 1<<funct3At | 0x00<<funct7At},
		api.OpSRLW:  {"srlw", api.ShapeR, 0x3B | 5<<funct3At | 0x00<<funct7At},
		api.OpSRAW:  {"sraw", api.ShapeR, 0x3B | 5<<funct3At | 0x20<<funct7At},
	}[op]
}

func laterOperation(op int) operation {
	return [api.Ops]operation{
		api.OpMUL:    {"mul", api.ShapeR, 0x33 | 0<<funct3At | 0x01<<funct7At},
		api.OpMULH:   {"mulh", api.ShapeR, 0x33 | 1<<funct3At | 0x01<<funct7At},
		api.OpMULHSU: {"mulhsu", api.ShapeR, 0x33 | 2<<funct3At | 0x01<<funct7At},
		api.OpMULHU:  {"mulhu", api.ShapeR, 0x33 | 3<<funct3At | 0x01<<funct7At},
		api.OpDIV:    {"div", api.ShapeR, 0x33 | 4<<funct3At | 0x01<<funct7At},
		api.OpDIVU:   {"divu", api.ShapeR, 0x33 | 5<<funct3At | 0x01<<funct7At},
		api.OpREM:    {"rem", api.ShapeR, 0x33 | 6<<funct3At | 0x01<<funct7At},
		api.OpREMU:   {"remu", api.ShapeR, 0x33 | 7<<funct3At | 0x01<<funct7At},
		api.OpMULW:   {"mulw", api.ShapeR, 0x3B | 0<<funct3At | 0x01<<funct7At},
		api.OpDIVW:   {"divw", api.ShapeR, 0x3B | 4<<funct3At | 0x01<<funct7At},
		api.OpDIVUW:  {"divuw", api.ShapeR, 0x3B | 5<<funct3At | 0x01<<funct7At},
		api.OpREMW:   {"remw", api.ShapeR, 0x3B | 6<<funct3At | 0x01<<funct7At},
		api.OpREMUW:  {"remuw", api.ShapeR, 0x3B | 7<<funct3At | 0x01<<funct7At},
		api.OpFENCE:  {"fence", api.ShapeF, 0x0F | 0<<funct3At},
		api.OpFENCEI: {"fence.i", api.ShapeF, 0x0F | 1<<funct3At},
		api.OpECALL:  {"ecall", api.ShapeZ, 0x00000073},
		api.OpEBREAK: {"ebreak", api.ShapeZ, 0x00100073},
		api.OpSRET:   {"sret", api.ShapeZ, 0x10200073},
		api.OpMRET:   {"mret", api.ShapeZ, 0x30200073},
		api.OpWFI:    {"wfi", api.ShapeZ, 0x10500073},
		api.OpSFENCE: {"sfence.vma", api.ShapeV, 0x73 | 0<<funct3At | 0x09<<funct7At},
		api.OpCSRRW:  {"csrrw", api.ShapeC, 0x73 | 1<<funct3At},
		api.OpCSRRS:  {"csrrs", api.ShapeC, 0x73 | 2<<funct3At},
		api.OpCSRRC:  {"csrrc", api.ShapeC, 0x73 | 3<<funct3At},
		api.OpCSRRWI: {"csrrwi", api.ShapeCI, 0x73 | 5<<funct3At},
		api.OpCSRRSI: {"csrrsi", api.ShapeCI, 0x73 | 6<<funct3At},
		api.OpCSRRCI: {"csrrci", api.ShapeCI, 0x73 | 7<<funct3At},
	}[op]
}
