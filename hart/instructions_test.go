package hart_test

import (
	"testing"

	"hartix/api"
	"hartix/hart"
	"hartix/insn"
)

// wordOf lays an instruction down.
func wordOf(t *testing.T, i api.Insn) uint32 {
	t.Helper()
	word, err := insn.Encode(i)
	if err != nil {
		t.Fatalf("%+v: %v", i, err)
	}
	return word
}

// at puts an instruction at pc of the page 0, whose frame is code.
func (m machine) at(t *testing.T, code, pc uint64, i api.Insn) string {
	t.Helper()
	m.put(t, code+pc, wordOf(t, i))
	return insn.Name(i.Op)
}

func minus(n uint64) uint64 { return -n }

// What is reckoned of two registers, by hand.
func TestReckonedOfRegisters(t *testing.T) {
	m, code, _ := example(t)
	const top = 1 << 63
	for _, c := range []struct {
		op      int
		a, b, v uint64
	}{
		{api.OpADD, minus(1), 3, 2},
		{api.OpSUB, 1, 3, minus(2)},
		{api.OpSLL, 3, 65, 6},
		{api.OpSLT, minus(1), 1, 1},
		{api.OpSLT, 1, minus(1), 0},
		{api.OpSLTU, minus(1), 1, 0},
		{api.OpSLTU, 1, minus(1), 1},
		{api.OpXOR, 0b1100, 0b1010, 0b0110},
		{api.OpSRL, top, 63, 1},
		{api.OpSRA, top, 63, minus(1)},
		{api.OpOR, 0b1100, 0b1010, 0b1110},
		{api.OpAND, 0b1100, 0b1010, 0b1000},
		{api.OpADDW, 0x7fffffff, 1, 0xffffffff80000000},
		{api.OpSUBW, 1 << 32, 1, minus(1)},
		{api.OpSLLW, 1, 63, 0xffffffff80000000},
		{api.OpSRLW, 0xff80000000, 4, 0x08000000},
		{api.OpSRAW, 0x80000000, 4, 0xfffffffff8000000},
		{api.OpMUL, 1 << 33, 1<<31 + 1, 1 << 33},
		{api.OpMULH, minus(1), 2, minus(1)},
		{api.OpMULHSU, minus(1), minus(1), minus(1)},
		{api.OpMULHSU, 2, minus(1), 1},
		{api.OpMULHU, minus(1), 2, 1},
		{api.OpDIV, minus(7), 2, minus(3)},
		{api.OpDIVU, minus(7), 2, top - 4},
		{api.OpREM, minus(7), 2, minus(1)},
		{api.OpREMU, minus(7), 2, 1},
		{api.OpDIV, 5, 0, minus(1)},
		{api.OpREM, 5, 0, 5},
		{api.OpDIV, top, minus(1), top},
		{api.OpREM, top, minus(1), 0},
		{api.OpMULW, 0x10001, 0x10001, 0x20001},
		{api.OpDIVW, 0xfffffff9, 2, minus(3)},
		{api.OpDIVUW, 0xfffffff9, 1, minus(7)},
		{api.OpREMW, 0xfffffff9, 2, minus(1)},
		{api.OpREMUW, 0xfffffff9, 2, 1},
	} {
		what := m.at(t, code, 8, api.Insn{Op: c.op, Rd: 3, Rs1: 4, Rs2: 5})
		m.checkDone(t, what, with(8, map[int]uint64{3: 99, 4: c.a, 5: c.b}), with(12, map[int]uint64{3: c.v, 4: c.a, 5: c.b}))
		m.at(t, code, 8, api.Insn{Op: c.op, Rd: 4, Rs1: 4, Rs2: 5})
		m.checkDone(t, what+", Rd is Rs1", with(8, map[int]uint64{4: c.a, 5: c.b}), with(12, map[int]uint64{4: c.v, 5: c.b}))
		m.at(t, code, 8, api.Insn{Op: c.op, Rd: 31, Rs1: 4, Rs2: 31})
		m.checkDone(t, what+", Rd is Rs2", with(8, map[int]uint64{4: c.a, 31: c.b}), with(12, map[int]uint64{4: c.a, 31: c.v}))
		m.at(t, code, 8, api.Insn{Op: c.op, Rd: 0, Rs1: 4, Rs2: 5})
		m.checkDone(t, what+", Rd is x0", with(8, map[int]uint64{4: c.a, 5: c.b}), with(12, map[int]uint64{4: c.a, 5: c.b}))
	}
}

// What is reckoned of a register and Imm, by hand.
func TestReckonedOfImm(t *testing.T) {
	m, code, _ := example(t)
	const top = 1 << 63
	for _, c := range []struct {
		op int
		a  uint64
		i  int64
		v  uint64
	}{
		{api.OpADDI, 1, -2, minus(1)},
		{api.OpADDI, minus(1), 2047, 2046},
		{api.OpADDI, 5, -2048, minus(2043)},
		{api.OpSLTI, minus(2), -1, 1},
		{api.OpSLTI, 1, -1, 0},
		{api.OpSLTIU, 1, -1, 1},
		{api.OpSLTIU, minus(1), -1, 0},
		{api.OpSLTIU, minus(1), 1, 0},
		{api.OpXORI, 5, -1, minus(6)},
		{api.OpORI, 0xf000, -2048, minus(2048)},
		{api.OpORI, 8, 3, 11},
		{api.OpANDI, minus(1), -2048, minus(2048)},
		{api.OpANDI, 12, 10, 8},
		{api.OpSLLI, 3, 63, top},
		{api.OpSRLI, top, 63, 1},
		{api.OpSRAI, top, 63, minus(1)},
		{api.OpADDIW, 0x7fffffff, 1, 0xffffffff80000000},
		{api.OpADDIW, 1<<32 | 5, -6, minus(1)},
		{api.OpSLLIW, 3, 31, 0xffffffff80000000},
		{api.OpSRLIW, 0xff80000000, 31, 1},
		{api.OpSRAIW, 0x80000000, 31, minus(1)},
	} {
		what := m.at(t, code, 8, api.Insn{Op: c.op, Rd: 3, Rs1: 4, Imm: c.i})
		m.checkDone(t, what, with(8, map[int]uint64{3: 99, 4: c.a}), with(12, map[int]uint64{3: c.v, 4: c.a}))
		m.at(t, code, 8, api.Insn{Op: c.op, Rd: 4, Rs1: 4, Imm: c.i})
		m.checkDone(t, what+", Rd is Rs1", with(8, map[int]uint64{4: c.a}), with(12, map[int]uint64{4: c.v}))
		m.at(t, code, 8, api.Insn{Op: c.op, Rd: 0, Rs1: 4, Imm: c.i})
		m.checkDone(t, what+", Rd is x0", with(8, map[int]uint64{4: c.a}), with(12, map[int]uint64{4: c.a}))
	}
}

func TestUpper(t *testing.T) {
	m, code, _ := example(t)
	for _, c := range []struct {
		op  int
		imm int64
		v   uint64
	}{
		{api.OpLUI, 0, 0},
		{api.OpLUI, 0x12345000, 0x12345000},
		{api.OpLUI, -1 << 31, 0xffffffff80000000},
		{api.OpAUIPC, 0, 0x104},
		{api.OpAUIPC, 0x7ffff000, 0x7ffff104},
		{api.OpAUIPC, -4096, minus(4096 - 0x104)},
	} {
		what := m.at(t, code, 0x104, api.Insn{Op: c.op, Rd: 7, Imm: c.imm})
		m.checkDone(t, what, with(0x104, map[int]uint64{7: 1}), with(0x108, map[int]uint64{7: c.v}))
		m.at(t, code, 0x104, api.Insn{Op: c.op, Imm: c.imm})
		m.checkDone(t, what+" to x0", api.Regs{Pc: 0x104}, api.Regs{Pc: 0x108})
	}
}

func TestJumps(t *testing.T) {
	m, code, _ := example(t)
	jal := func(rd int, imm int64) string {
		return m.at(t, code, 0x100, api.Insn{Op: api.OpJAL, Rd: rd, Imm: imm})
	}
	for imm, to := range map[int64]uint64{0: 0x100, 4: 0x104, -0x100: 0, -0x104: minus(4), 1<<20 - 4: 0x1000fc, -1 << 20: minus(1<<20 - 0x100)} {
		m.checkDone(t, jal(1, imm), with(0x100, nil), with(to, map[int]uint64{1: 0x104}))
		m.checkDone(t, jal(0, imm), with(0x100, nil), with(to, nil))
	}
	for imm, to := range map[int64]uint64{2: 0x102, -2: 0xfe, 1<<20 - 2: 0x1000fe} {
		m.checkTrap(t, jal(1, imm), with(0x100, map[int]uint64{1: 7}), trapOf(api.CauseFetchAlign, to))
		m.checkTrap(t, jal(0, imm), with(0x100, map[int]uint64{1: 7}), trapOf(api.CauseFetchAlign, to))
	}
}

func TestJumpsByRegister(t *testing.T) {
	m, code, _ := example(t)
	for _, c := range []struct {
		a   uint64
		imm int64
		to  uint64 // its bit 1 set: a trap
	}{
		{0, 0, 0}, {0x2000, 8, 0x2008}, {0x2000, -2048, 0x1800}, {minus(4), 8, 4}, {4, -8, minus(4)},
		{5, 0, 4}, {4, 1, 4}, {5, 3, 8}, {3, 2, 4}, {minus(1), 2, 0}, {minus(1), 0, minus(2)},
		{6, 0, 6}, {7, 0, 6}, {4, 2, 6}, {4, 3, 6}, {5, 2, 6}, {0, -1, minus(2)}, {1 << 63, 2, 1<<63 + 2},
	} {
		for _, rd := range []int{0, 1, 2} { // 2 is the one that leads
			what := m.at(t, code, 0x100, api.Insn{Op: api.OpJALR, Rd: rd, Rs1: 2, Imm: c.imm})
			begin := with(0x100, map[int]uint64{1: 7, 2: c.a})
			if c.to&2 != 0 {
				m.checkTrap(t, what, begin, trapOf(api.CauseFetchAlign, c.to))
				continue
			}
			want := begin
			want.X[rd], want.Pc = 0x104, c.to
			want.X[0] = 0
			m.checkDone(t, what, begin, want)
		}
	}
	// x0 leads to Imm, whatever stands in it.
	m.at(t, code, 0x100, api.Insn{Op: api.OpJALR, Rd: 1, Imm: 16})
	m.checkDone(t, "jalr by x0", with(0x100, map[int]uint64{0: 0x1230}), with(16, map[int]uint64{1: 0x104}))
}

func TestBranches(t *testing.T) {
	m, code, _ := example(t)
	pairs := [][2]uint64{{0, 0}, {1, 2}, {2, 1}, {minus(1), 1}, {1, minus(1)}, {minus(2), minus(1)}, {minus(1), minus(1)}, {1 << 63, 1<<63 - 1}}
	for op, holds := range map[int]string{ // of the pairs in their order
		api.OpBEQ:  "10000010",
		api.OpBNE:  "01111101",
		api.OpBLT:  "01010101",
		api.OpBGE:  "10101010",
		api.OpBLTU: "01001100",
		api.OpBGEU: "10110011",
	} {
		for n, p := range pairs {
			for _, imm := range []int64{0, 8, -8, 4092, -4096, 2, -2, 4094} {
				what := m.at(t, code, 0x100, api.Insn{Op: op, Rs1: 8, Rs2: 9, Imm: imm})
				begin := with(0x100, map[int]uint64{8: p[0], 9: p[1]})
				to := uint64(0x100 + imm)
				switch {
				case holds[n] == '0':
					m.checkDone(t, what, begin, with(0x104, map[int]uint64{8: p[0], 9: p[1]}))
				case imm%4 != 0:
					m.checkTrap(t, what, begin, trapOf(api.CauseFetchAlign, to))
				default:
					m.checkDone(t, what, begin, with(to, map[int]uint64{8: p[0], 9: p[1]}))
				}
			}
		}
	}
}

// A fence has the fields of registers, and does nothing.
func TestFences(t *testing.T) {
	m, code, _ := example(t)
	for _, op := range []int{api.OpFENCE, api.OpFENCEI} {
		for _, i := range []api.Insn{{Op: op}, {Op: op, Rd: 5, Rs1: 6, Imm: 4095}, {Op: op, Rd: 31, Rs1: 31, Imm: 0xff}} {
			what := m.at(t, code, 8, i)
			before := twin(t, m.Ram)
			m.checkDone(t, what, with(8, map[int]uint64{5: 1, 6: 2, 31: 3}), with(12, map[int]uint64{5: 1, 6: 2, 31: 3}))
			checkMemory(t, what, m.Ram, before)
		}
	}
}

// x0 is 0 to whoever reads it, whatever was handed in.
func TestX0IsRead(t *testing.T) {
	m, code, data := example(t)
	m.Store(data, 8, minus(1))
	for _, c := range []struct {
		i    api.Insn
		want api.Regs
	}{
		{api.Insn{Op: api.OpADD, Rd: 1}, with(4, nil)},
		{api.Insn{Op: api.OpADDI, Rd: 1, Imm: 5}, with(4, map[int]uint64{1: 5})},
		{api.Insn{Op: api.OpBNE, Rs1: 1, Imm: 8}, with(4, nil)},
		{api.Insn{Op: api.OpBEQ, Rs2: 1, Imm: 8}, with(8, nil)},
		{api.Insn{Op: api.OpSD, Rs1: 2}, with(4, nil)},
	} {
		what := m.at(t, code, 0, c.i)
		c.want.X[2] = 0x1000
		m.checkDone(t, what, with(0, map[int]uint64{2: 0x1000}), c.want)
	}
	if v, _ := m.Load(data, 8); v != 0 {
		t.Errorf("sd of x0 wrote %x", v)
	}
}

// A whole program: the numbers from 1 to 10 summed up into memory, and a call.
func TestProgram(t *testing.T) {
	m, code, data := example(t)
	for n, i := range []api.Insn{
		{Op: api.OpLUI, Rd: 5, Imm: 0x1000},
		{Op: api.OpADDI, Rd: 6, Imm: 10},
		{Op: api.OpLW, Rd: 7, Rs1: 5, Imm: 16}, // 8: again
		{Op: api.OpADD, Rd: 7, Rs1: 7, Rs2: 6},
		{Op: api.OpSW, Rs1: 5, Rs2: 7, Imm: 16},
		{Op: api.OpADDI, Rd: 6, Rs1: 6, Imm: -1},
		{Op: api.OpBNE, Rs1: 6, Imm: -16},
		{Op: api.OpECALL},
	} {
		m.at(t, code, 4*uint64(n), i)
	}
	regs, trap := api.Regs{}, api.Trap{}
	steps := 0
	for ; !trap.Taken && steps < 100; steps++ {
		regs, trap = hart.Step(m.Ram, m.root, regs)
	}
	if steps != 2+10*5+1 || trap != trapOf(api.CauseCall, 0) || regs != with(28, map[int]uint64{5: 0x1000, 7: 55}) {
		t.Errorf("behind %d steps: %x, %+v", steps, regs, trap)
	}
	if v, _ := m.Load(data+16, 8); v != 55 {
		t.Errorf("the sum is %d", v)
	}
}
