package insn

import "hartix/api"

const (
	allBits    uint32 = 0xFFFFFFFF
	opcodeBits uint32 = 0x7F
	rdBits     uint32 = 0x1F << 7
	funct3Bits uint32 = 0x7 << funct3At
	funct6Bits uint32 = 0x7E << funct7At // funct7 without its lowest bit
	funct7Bits uint32 = 0x7F << funct7At
)

// layout is a row of the chapter's table of shapes: the bits that are the operation's own, and how Imm lies in a word.
type layout struct {
	fixedBits uint32
	takeImm   func(word uint32) int64
	putImm    func(imm int64) uint32
}

func layoutOf(shape int) layout {
	switch shape {
	case api.ShapeR:
		return layout{opcodeBits | funct3Bits | funct7Bits, takeNone, putNone}
	case api.ShapeI, api.ShapeL:
		return layout{opcodeBits | funct3Bits, takeI, putHigh12}
	case api.ShapeH:
		return layout{opcodeBits | funct3Bits | funct6Bits, takeH, putH}
	case api.ShapeW:
		return layout{opcodeBits | funct3Bits | funct7Bits, takeW, putW}
	case api.ShapeS:
		return layout{opcodeBits | funct3Bits, takeS, putS}
	case api.ShapeB:
		return layout{opcodeBits | funct3Bits, takeB, putB}
	case api.ShapeU:
		return layout{opcodeBits, takeU, putU}
	case api.ShapeJ:
		return layout{opcodeBits, takeJ, putJ}
	case api.ShapeF:
		return layout{opcodeBits | funct3Bits, takeF, putHigh12}
	case api.ShapeV:
		return layout{opcodeBits | rdBits | funct3Bits | funct7Bits, takeNone, putNone}
	case api.ShapeC:
		return layout{opcodeBits | funct3Bits, takeNone, putNone}
	case api.ShapeCI:
		return layout{opcodeBits | funct3Bits, takeCI, putCI}
	}
	return layout{allBits, takeNone, putNone} // ShapeZ
}

// numberedFields reads the fields of a shape that are plain numbers: all but Imm.
func numberedFields(shape int, word uint32) api.Insn {
	var i api.Insn
	switch shape {
	case api.ShapeR:
		i.Rd = field(word, 7, 5)
		fallthrough
	case api.ShapeS, api.ShapeB, api.ShapeV:
		i.Rs1 = field(word, 15, 5)
		i.Rs2 = field(word, 20, 5)
	case api.ShapeI, api.ShapeL, api.ShapeH, api.ShapeW, api.ShapeF:
		i.Rs1 = field(word, 15, 5)
		fallthrough
	case api.ShapeU, api.ShapeJ:
		i.Rd = field(word, 7, 5)
	case api.ShapeC:
		i.Rs1 = field(word, 15, 5)
		fallthrough
	case api.ShapeCI:
		i.Rd = field(word, 7, 5)
		i.Csr = field(word, 20, 12)
	}
	return i
}

func putNumberedFields(i api.Insn) uint32 {
	return uint32(i.Rd)<<7 | uint32(i.Rs1)<<15 | uint32(i.Rs2)<<20 | uint32(i.Csr)<<20
}

func field(word uint32, low, width int) int { return int(piece(word, low, width)) }

// piece takes so many bits of a number, from its bit low on, down to bit 0.
func piece(number uint32, low, width int) uint32 { return number >> low & (1<<width - 1) }

// signed takes the bits of a number from its bit low on as signed: the highest one goes on above them.
func signed(number uint32, low int) int64 { return int64(int32(number) >> low) }

func takeNone(uint32) int64 { return 0 }

func putNone(int64) uint32 { return 0 }

func takeI(word uint32) int64 { return signed(word, 20) }

func takeF(word uint32) int64 { return int64(piece(word, 20, 12)) }

func putHigh12(imm int64) uint32 { return piece(uint32(imm), 0, 12) << 20 }

func takeH(word uint32) int64 { return int64(piece(word, 20, 6)) }

func putH(imm int64) uint32 { return piece(uint32(imm), 0, 6) << 20 }

func takeW(word uint32) int64 { return int64(piece(word, 20, 5)) }

func putW(imm int64) uint32 { return piece(uint32(imm), 0, 5) << 20 }

func takeCI(word uint32) int64 { return int64(piece(word, 15, 5)) }

func putCI(imm int64) uint32 { return piece(uint32(imm), 0, 5) << 15 }

func takeS(word uint32) int64 { return signed(word, 25)<<5 | int64(piece(word, 7, 5)) }

func putS(imm int64) uint32 {
	i := uint32(imm)
	return piece(i, 5, 7)<<25 | piece(i, 0, 5)<<7
}

func takeB(word uint32) int64 {
	return signed(word, 31)<<12 | int64(piece(word, 7, 1)<<11|piece(word, 25, 6)<<5|piece(word, 8, 4)<<1)
}

func putB(imm int64) uint32 {
	i := uint32(imm)
	return piece(i, 12, 1)<<31 | piece(i, 5, 6)<<25 | piece(i, 1, 4)<<8 | piece(i, 11, 1)<<7
}

func takeU(word uint32) int64 { return signed(word, 12) << 12 }

func putU(imm int64) uint32 { return piece(uint32(imm), 12, 20) << 12 }

func takeJ(word uint32) int64 {
	return signed(word, 31)<<20 | int64(piece(word, 12, 8)<<12|piece(word, 20, 1)<<11|piece(word, 21, 10)<<1)
}

func putJ(imm int64) uint32 {
	i := uint32(imm)
	return piece(i, 20, 1)<<31 | piece(i, 1, 10)<<21 | piece(i, 11, 1)<<20 | piece(i, 12, 8)<<12
}
