package engine_test

// The abstract machine's hart (chapters 1, 2 and 5): words taken apart by their bits, over pages that are lists of bytes.

import "math/bits"

// What became of an instruction.
const (
	insnDone = iota
	insnCall
	insnWrong
)

// reach gives n bytes at va within one page, if the user has that right there.
func (p *plainProc) reach(va uint64, n int, right uint64) ([]byte, bool) {
	if va/pageSize >= uint64(len(p.pages)) || va%pageSize+uint64(n) > pageSize {
		return nil, false
	}
	at := p.pages[va/pageSize]
	if at.perm&isUsers == 0 || at.perm&right == 0 {
		return nil, false
	}
	return at.data[va%pageSize:][:n], true
}

func lowFirst(b []byte) uint64 {
	v := uint64(0)
	for k := len(b) - 1; k >= 0; k-- {
		v = v<<8 | uint64(b[k])
	}
	return v
}

// step does one instruction. What goes wrong is told alike: the process ends.
func (p *plainProc) step() int {
	if p.regs.Pc%4 != 0 {
		return insnWrong
	}
	b, ok := p.reach(p.regs.Pc, 4, mayFetch)
	if !ok {
		return insnWrong
	}
	word := uint32(lowFirst(b))
	if word == 0x73 {
		return insnCall
	}
	regs := p.regs
	if !p.word(word) {
		p.regs = regs
		return insnWrong
	}
	p.regs.X[0] = 0
	return insnDone
}

func signExtended(word uint32, low int) uint64 { return uint64(int64(int32(word) >> low)) }

func (p *plainProc) word(word uint32) bool {
	pc, x := p.regs.Pc, &p.regs.X
	rd, f3, f7 := &x[word>>7&31], word>>12&7, word>>25
	a, b := x[word>>15&31], x[word>>20&31]
	immI := signExtended(word, 20)
	immS := signExtended(word, 25)<<5 | uint64(word>>7&31)
	next := pc + 4
	known := true
	value, writes := uint64(0), true
	switch word & 0x7f {
	case 0x37:
		value = signExtended(word, 12) << 12
	case 0x17:
		value = pc + signExtended(word, 12)<<12
	case 0x6f:
		value = pc + 4
		next = pc + (signExtended(word, 31)<<20 | uint64(word&0xff000) | uint64(word>>20&1)<<11 | uint64(word>>21&0x3ff)<<1)
	case 0x67:
		value, known = pc+4, f3 == 0
		next = (a + immI) &^ 1
	case 0x63:
		writes, known = false, f3 != 2 && f3 != 3
		if branches(f3, a, b) {
			next = pc + (signExtended(word, 31)<<12 | uint64(word>>7&1)<<11 | uint64(word>>25&0x3f)<<5 | uint64(word>>8&15)<<1)
		}
	case 0x03:
		value, known = p.load(a+immI, f3)
	case 0x23:
		writes, known = false, f3 < 4 && p.store(a+immS, f3, b)
	case 0x13:
		value, known = withImm(f3, word>>26, a, immI)
	case 0x1b:
		value, known = halfWithImm(f3, f7, a, immI)
	case 0x33:
		value, known = reckoned(f3, f7, a, b)
	case 0x3b:
		value, known = halfReckoned(f3, f7, a, b)
	case 0x0f:
		writes, known = false, f3 < 2
	default:
		known = false
	}
	if !known || next%4 != 0 {
		return false
	}
	if writes {
		*rd = value
	}
	p.regs.Pc = next
	return true
}

func branches(f3 uint32, a, b uint64) bool {
	switch f3 {
	case 0:
		return a == b
	case 1:
		return a != b
	case 4:
		return int64(a) < int64(b)
	case 5:
		return int64(a) >= int64(b)
	case 6:
		return a < b
	}
	return f3 == 7 && a >= b
}

func (p *plainProc) load(va uint64, f3 uint32) (uint64, bool) {
	n := uint64(1) << (f3 & 3)
	if f3 == 7 || va%n != 0 {
		return 0, false
	}
	b, ok := p.reach(va, int(n), mayRead)
	v := lowFirst(b)
	switch f3 {
	case 0:
		v = uint64(int8(v))
	case 1:
		v = uint64(int16(v))
	case 2:
		v = uint64(int32(v))
	}
	return v, ok
}

func (p *plainProc) store(va uint64, f3 uint32, v uint64) bool {
	n := uint64(1) << f3
	if va%n != 0 {
		return false
	}
	b, ok := p.reach(va, int(n), mayWrite)
	for k := range b {
		b[k] = byte(v >> (8 * k))
	}
	return ok
}

func oneIf(is bool) uint64 {
	if is {
		return 1
	}
	return 0
}

func withImm(f3, f6 uint32, a, imm uint64) (uint64, bool) {
	by := imm & 63
	switch {
	case f3 == 0:
		return a + imm, true
	case f3 == 1:
		return a << by, f6 == 0
	case f3 == 2:
		return oneIf(int64(a) < int64(imm)), true
	case f3 == 3:
		return oneIf(a < imm), true
	case f3 == 4:
		return a ^ imm, true
	case f3 == 5 && f6 == 16:
		return uint64(int64(a) >> by), true
	case f3 == 5:
		return a >> by, f6 == 0
	case f3 == 6:
		return a | imm, true
	}
	return a & imm, true
}

func halfWithImm(f3, f7 uint32, a, imm uint64) (uint64, bool) {
	by := imm & 31
	switch {
	case f3 == 0:
		return uint64(int32(a + imm)), true
	case f3 == 1 && f7 == 0:
		return uint64(int32(a) << by), true
	case f3 == 5 && f7 == 0:
		return uint64(int32(uint32(a) >> by)), true
	case f3 == 5 && f7 == 32:
		return uint64(int32(a) >> by), true
	}
	return 0, false
}

func reckoned(f3, f7 uint32, a, b uint64) (uint64, bool) {
	high, low := bits.Mul64(a, b)
	switch f7<<3 | f3 {
	case 0:
		return a + b, true
	case 1:
		return a << (b & 63), true
	case 2:
		return oneIf(int64(a) < int64(b)), true
	case 3:
		return oneIf(a < b), true
	case 4:
		return a ^ b, true
	case 5:
		return a >> (b & 63), true
	case 6:
		return a | b, true
	case 7:
		return a & b, true
	case 32 << 3:
		return a - b, true
	case 32<<3 | 5:
		return uint64(int64(a) >> (b & 63)), true
	case 8:
		return low, true
	case 9: // the product of signed numbers is that of the words, less what their signs have added
		return high - a>>63*b - b>>63*a, true
	case 10:
		return high - a>>63*b, true
	case 11:
		return high, true
	case 12, 13, 14, 15:
		return divided(f3, a, b), true
	}
	return 0, false
}

func divided(f3 uint32, a, b uint64) uint64 {
	switch {
	case b == 0 && f3 < 6:
		return 1<<64 - 1
	case b == 0:
		return a
	case f3 == 4:
		return uint64(int64(a) / int64(b))
	case f3 == 5:
		return a / b
	case f3 == 6:
		return uint64(int64(a) % int64(b))
	}
	return a % b
}

func halfReckoned(f3, f7 uint32, a, b uint64) (uint64, bool) {
	x, y := int32(a), int32(b)
	switch f7<<3 | f3 {
	case 0:
		return uint64(x + y), true
	case 1:
		return uint64(x << (uint32(y) & 31)), true
	case 5:
		return uint64(int32(uint32(x) >> (uint32(y) & 31))), true
	case 32 << 3:
		return uint64(x - y), true
	case 32<<3 | 5:
		return uint64(x >> (uint32(y) & 31)), true
	case 8:
		return uint64(x * y), true
	case 12, 14: // signed: the wide division of the widened halves
		return uint64(int32(divided(f3, uint64(x), uint64(y)))), true
	case 13, 15:
		return uint64(int32(divided(f3, uint64(uint32(x)), uint64(uint32(y))))), true
	}
	return 0, false
}
