package hart_test

// What the chapter says, read a second time: words taken apart by their bits, reckoned by the language's own numbers, tables gone down entry by entry, without the layers that the code under test stands on (but for the RAM itself).

import (
	"bytes"
	"math/big"
	"testing"

	"hartix/api"
	"hartix/ram"
)

const (
	page = 4096
	base = 0x80000000
)

// The bits of an entry.
const (
	bitV = 1 << iota
	bitR
	bitW
	bitX
	bitU
	bitG
	bitA
	bitD
)

// places is which bytes of the RAM a step may reach.
type places map[uint64]bool

func (p places) add(pa uint64, n int) {
	for i := range uint64(n) {
		p[pa+i] = true
	}
}

// found is P4.3: where va leads, if the leaf has the bits that are asked for.
func found(r *ram.Ram, root, va, asked uint64, seen places) (uint64, bool) {
	if top := int64(va) >> 38; top != 0 && top != -1 {
		return 0, false
	}
	node := root
	for _, size := range []uint64{1 << 30, 1 << 21, 1 << 12} {
		at := node + va/size%512*8
		e, held := r.Load(at, 8)
		if !held || node%page != 0 || node == base {
			return 0, false
		}
		seen.add(at, 8)
		first := e >> 10 * page
		switch {
		case e&bitV == 0 || e>>54 != 0 || e&(bitR|bitW) == bitW:
			return 0, false
		case e&(bitR|bitX) != 0:
			return first + va%size, first%size == 0 && e&asked == asked
		case e&(bitU|bitA|bitD) != 0:
			return 0, false
		}
		node = first
	}
	return 0, false
}

// wanted is what a step shall answer, which bytes it may reach, and which of these it writes.
type wanted struct {
	regs    api.Regs
	trap    api.Trap
	reached places
	at      uint64
	wrote   int
}

func (w *wanted) trapped(cause, value uint64) {
	w.trap = api.Trap{Taken: true, Cause: cause, Value: value}
}

// wantStep is P5.1 to P5.3: it does to r, a memory of its own, what Step shall do.
func wantStep(r *ram.Ram, root uint64, regs api.Regs) wanted {
	regs.X[0] = 0
	w := wanted{regs: regs, reached: places{}}
	if regs.Pc&3 != 0 {
		w.trapped(0, regs.Pc)
		return w
	}
	pa, ok := found(r, root, regs.Pc, bitU|bitA|bitX, w.reached)
	if !ok {
		w.trapped(12, regs.Pc)
		return w
	}
	b, held := r.Read(pa, 4)
	if !held {
		w.trapped(1, regs.Pc)
		return w
	}
	w.reached.add(pa, 4)
	word := uint32(b[0]) + uint32(b[1])<<8 + uint32(b[2])<<16 + uint32(b[3])<<24
	w.word(r, root, word)
	if w.trap.Taken {
		w.regs = regs
	}
	w.regs.X[0] = 0
	return w
}

func signed(word uint32, low int) uint64 { return uint64(int64(int32(word) >> low)) }

func (w *wanted) word(r *ram.Ram, root uint64, word uint32) {
	pc := w.regs.Pc
	rd, f3, f7 := &w.regs.X[word>>7&31], word>>12&7, word>>25
	a, b := w.regs.X[word>>15&31], w.regs.X[word>>20&31]
	immI := signed(word, 20)
	next := pc + 4
	known := true
	switch word & 0x7f {
	case 0x37:
		*rd = signed(word, 12) * page
	case 0x17:
		*rd = pc + signed(word, 12)*page
	case 0x6f:
		next = pc + signed(word, 31)<<20 + uint64(word&0xff000+word>>20&1<<11+word>>21&0x3ff<<1)
		*rd = pc + 4
	case 0x67:
		next = (a + immI) / 2 * 2
		*rd = pc + 4
		known = f3 == 0
	case 0x63:
		if taken(f3, a, b) {
			next = pc + signed(word, 31)<<12 + uint64(word>>7&1<<11+word>>25&0x3f<<5+word>>8&0xf<<1)
		}
		known = f3 != 2 && f3 != 3
	case 0x03:
		if known = f3 != 7; known {
			w.load(r, root, a+immI, f3, rd)
		}
	case 0x23:
		if known = f3 < 4; known {
			w.store(r, root, a+signed(word, 25)<<5+uint64(word>>7&31), 1<<f3, b)
		}
	case 0x13, 0x1b:
		*rd, known = reckonedImm(word, a, immI)
	case 0x33:
		*rd, known = reckoned(f3, f7, a, b)
	case 0x3b:
		*rd, known = reckonedHalf(f3, f7, a, b)
	case 0x0f:
		known = f3 < 2
	case 0x73:
		known = word == 0x73 || word == 0x100073
		if word == 0x73 {
			w.trapped(8, 0)
		} else if known {
			w.trapped(3, pc)
		}
	default:
		known = false
	}
	if !known {
		w.trapped(2, uint64(word))
	} else if next&2 != 0 {
		w.trapped(0, next)
	}
	w.regs.Pc = next
}

func taken(f3 uint32, a, b uint64) bool {
	return []bool{a == b, a != b, false, false, int64(a) < int64(b), int64(a) >= int64(b), a < b, a >= b}[f3]
}

func (w *wanted) load(r *ram.Ram, root, va uint64, f3 uint32, rd *uint64) {
	n := 1 << (f3 % 4)
	if va%uint64(n) != 0 {
		w.trapped(4, va)
		return
	}
	pa, ok := found(r, root, va, bitU|bitA|bitR, w.reached)
	if !ok {
		w.trapped(13, va)
		return
	}
	b, held := r.Read(pa, n)
	if !held {
		w.trapped(5, va)
		return
	}
	w.reached.add(pa, n)
	v := uint64(0)
	for i, c := range b {
		v += uint64(c) << (8 * i)
	}
	*rd = []uint64{uint64(int8(v)), uint64(int16(v)), uint64(int32(v)), v, v, v, v}[f3]
}

func (w *wanted) store(r *ram.Ram, root, va uint64, n int, v uint64) {
	if va%uint64(n) != 0 {
		w.trapped(6, va)
		return
	}
	pa, ok := found(r, root, va, bitU|bitA|bitW|bitD, w.reached)
	if !ok {
		w.trapped(15, va)
		return
	}
	b := make([]byte, n)
	for i := range b {
		b[i] = byte(v >> (8 * i))
	}
	if !r.Write(pa, b) {
		w.trapped(7, va)
		return
	}
	w.reached.add(pa, n)
	w.at, w.wrote = pa, n
}

func one(if1 bool) uint64 {
	if if1 {
		return 1
	}
	return 0
}

func reckonedImm(word uint32, a, imm uint64) (uint64, bool) {
	f3, f6, by := word>>12&7, word>>26, imm&63
	if word&0x7f == 0x1b {
		f6, by = word>>25, imm&31
		switch {
		case f3 == 0:
			return uint64(int32(a + imm)), true
		case f3 == 1 && f6 == 0:
			return uint64(int32(a << by)), true
		case f3 == 5 && f6 == 0:
			return uint64(int32(uint32(a) >> by)), true
		case f3 == 5 && f6 == 0x20:
			return uint64(int32(a) >> by), true
		}
		return 0, false
	}
	switch f3 {
	case 1:
		return a << by, f6 == 0
	case 5:
		if f6 == 0x10 {
			return uint64(int64(a) >> by), true
		}
		return a >> by, f6 == 0
	}
	return []uint64{a + imm, 0, one(int64(a) < int64(imm)), one(a < imm), a ^ imm, 0, a | imm, a & imm}[f3], true
}

// highProduct is bits 127 to 64 of a product, of numbers that are signed or not.
func highProduct(a, b uint64, signedA, signedB bool) uint64 {
	whole := func(v uint64, signed bool) *big.Int {
		if signed {
			return big.NewInt(int64(v))
		}
		return new(big.Int).SetUint64(v)
	}
	p := new(big.Int).Mul(whole(a, signedA), whole(b, signedB))
	p.Rsh(p, 64)
	return p.And(p, new(big.Int).SetUint64(1<<64-1)).Uint64()
}

func reckoned(f3, f7 uint32, a, b uint64) (uint64, bool) {
	switch f7 {
	case 0:
		return []uint64{a + b, a << (b & 63), one(int64(a) < int64(b)), one(a < b), a ^ b, a >> (b & 63), a | b, a & b}[f3], true
	case 0x20:
		return []uint64{a - b, 0, 0, 0, 0, uint64(int64(a) >> (b & 63)), 0, 0}[f3], f3 == 0 || f3 == 5
	case 1:
		if f3 < 4 {
			return []uint64{a * b, highProduct(a, b, true, true), highProduct(a, b, true, false), highProduct(a, b, false, false)}[f3], true
		}
		if b == 0 {
			return []uint64{1<<64 - 1, 1<<64 - 1, a, a}[f3-4], true
		}
		// The language's own division by -1 wraps just as it is asked for.
		return []uint64{uint64(int64(a) / int64(b)), a / b, uint64(int64(a) % int64(b)), a % b}[f3-4], true
	}
	return 0, false
}

func reckonedHalf(f3, f7 uint32, a, b uint64) (uint64, bool) {
	x, y := int32(a), int32(b)
	u, v := uint32(a), uint32(b)
	var half int32
	known := true
	switch {
	case f7 == 0 && f3 == 0:
		half = x + y
	case f7 == 0x20 && f3 == 0:
		half = x - y
	case f7 == 0 && f3 == 1:
		half = x << (v & 31)
	case f7 == 0 && f3 == 5:
		half = int32(u >> (v & 31))
	case f7 == 0x20 && f3 == 5:
		half = x >> (v & 31)
	case f7 == 1 && f3 == 0:
		half = x * y
	case f7 == 1 && f3 >= 4 && v == 0:
		half = []int32{-1, -1, x, x}[f3-4]
	case f7 == 1 && f3 >= 4:
		half = []int32{x / y, int32(u / v), x % y, int32(u % v)}[f3-4]
	default:
		known = false
	}
	return uint64(half), known
}

// twin gives a memory of its own that is the same.
func twin(t *testing.T, r *ram.Ram) *ram.Ram {
	t.Helper()
	other, err := ram.FromImage(r.Image())
	if err != nil {
		t.Fatal(err)
	}
	return other
}

func checkMemory(t *testing.T, what string, r, want *ram.Ram) {
	t.Helper()
	got, w := r.Image(), want.Image()
	if len(got.Held) != len(w.Held) || len(got.Free) != len(w.Free) {
		t.Fatalf("%s: other frames are held", what)
	}
	for i, f := range got.Held {
		if f.Pa != w.Held[i].Pa {
			t.Fatalf("%s: other frames are held", what)
		}
		if bytes.Equal(f.Data, w.Held[i].Data) {
			continue
		}
		for j, c := range f.Data {
			if c != w.Held[i].Data[j] {
				t.Fatalf("%s: the byte at %x is %x, want %x", what, f.Pa+uint64(j), c, w.Held[i].Data[j])
			}
		}
	}
}

// scatter gives numbers that look like none, the same each time.
type scatter uint64

func (s *scatter) next() uint64 {
	*s = *s*6364136223846793005 + 1442695040888963407
	x := uint64(*s)
	return x ^ x>>29
}

func (s *scatter) below(n int) int { return int(s.next() >> 8 % uint64(n)) }

func pick[T any](s *scatter, from ...T) T { return from[s.below(len(from))] }
