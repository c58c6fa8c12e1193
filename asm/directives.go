package asm

import "hartix/api"

func directives() map[string]row {
	return map[string]row{
		".text":  turnRow(inText),
		".data":  turnRow(inData),
		".bss":   turnRow(inBss),
		".equ":   zerosRow([]part{someName, someConstant}, makeConstant),
		".zero":  zerosRow([]part{someConstant}, sizeOfZeros),
		".align": zerosRow([]part{someConstant}, sizeOfAlign),
		".byte":  numbersRow(1),
		".half":  numbersRow(2),
		".word":  numbersRow(4),
		".dword": numbersRow(8),
		".ascii": textRow(""),
		".asciz": textRow("\x00"),
	}
}

// zerosRow is one that may stand everywhere, since its bytes, if it has any, are 0.
func zerosRow(parts []part, first func(*assembler, *statement) uint64) row {
	return row{parts: parts, mayStand: isAnyPlace, first: first, lay: zeros}
}

func zeros(s *statement) []byte { return make([]byte, s.size) }

func isAnyPlace(int, uint64) bool { return true }

func isPlaceOfBytes(section int, _ uint64) bool { return section != inBss }

func turnRow(section int) row {
	return zerosRow(nil, func(a *assembler, _ *statement) uint64 {
		a.section = section
		return 0
	})
}

func makeConstant(a *assembler, s *statement) uint64 {
	a.symbols.put(s.operands[0].name, symbol{where: constants, value: s.operands[1].value})
	return 0
}

func sizeOfZeros(_ *assembler, s *statement) uint64 { return upTo(mostZeros, s.operands[0].value) }

func sizeOfAlign(_ *assembler, s *statement) uint64 {
	every := uint64(1) << upTo(mostAlign, s.operands[0].value)
	return roundUp(s.at, every) - s.at
}

func upTo(most, v uint64) uint64 {
	if v > most {
		giveUp(api.ErrAsmRange)
	}
	return v
}

func numbersRow(size int) row {
	return row{
		parts:    []part{someValue},
		many:     true,
		mayStand: isPlaceOfBytes,
		first:    func(_ *assembler, s *statement) uint64 { return uint64(size * len(s.operands)) },
		lay: func(s *statement) []byte {
			var b []byte
			for _, o := range s.operands {
				if !fits(int64(o.value), size) {
					giveUp(api.ErrAsmRange)
				}
				b = append(b, lowFirst(o.value, size)...)
			}
			return b
		},
	}
}

// fits tells whether so many bytes hold a number, signed or not.
func fits(v int64, size int) bool {
	bits := 8 * size
	return bits == 64 || v >= -1<<(bits-1) && v <= 1<<bits-1
}

func textRow(behind string) row {
	bytesOf := func(s *statement) []byte { return append(newBytes(s.operands[0].bytes), behind...) }
	return row{
		parts:    []part{someText},
		mayStand: isPlaceOfBytes,
		first:    func(_ *assembler, s *statement) uint64 { return uint64(len(bytesOf(s))) },
		lay:      bytesOf,
	}
}
