package hart_test

import (
	"testing"

	"hartix/api"
	"hartix/hart"
	"hartix/insn"
	"hartix/ram"
)

const nop = 0x00000013

func TestFetchOffItsPlace(t *testing.T) {
	m, code, _ := example(t)
	m.put(t, code, nop, nop)
	// At 40000001H there is no page either: the place is asked first.
	for _, pc := range []uint64{1, 2, 3, 5, 6, 7, 0x1002, 0x40000001, 1<<64 - 1, 1<<64 - 2} {
		m.checkTrap(t, "off its place", with(pc, map[int]uint64{5: 7}), trapOf(api.CauseFetchAlign, pc))
	}
}

func TestFetchWithoutAPage(t *testing.T) {
	for _, c := range []struct {
		what string
		perm uint64
	}{
		{"R alone", mayRead},
		{"no X", mayWrite},
		{"no U", mayAll &^ api.PteU},
		{"no A", mayAll &^ api.PteA},
	} {
		m := newMachine(t)
		m.put(t, m.page(t, 0x2000, c.perm), nop)
		m.checkTrap(t, c.what, api.Regs{Pc: 0x2000}, trapOf(api.CauseFetchPage, 0x2000))
	}
	m, code, _ := example(t)
	m.put(t, code, nop)
	for _, pc := range []uint64{0x1000, 0x2000, 0xfffffffc, 1 << 30, 1 << 37, 1 << 38, 1 << 39, 1 << 63, 1<<64 - 4} {
		m.checkTrap(t, "no page", with(pc, map[int]uint64{31: 1}), trapOf(api.CauseFetchPage, pc))
	}
}

func TestFetchWithLittleRight(t *testing.T) {
	for _, perm := range []uint64{mayFetch, mayExecute, mayAll, mayAll | api.PteG} {
		m := newMachine(t)
		m.put(t, m.page(t, 0x2000, perm), nop)
		m.checkDone(t, "X is enough", api.Regs{Pc: 0x2000}, api.Regs{Pc: 0x2004})
	}
}

func TestFetchFromNoHeldFrame(t *testing.T) {
	m := newMachine(t)
	free := m.frame(t)
	m.lay(t, 0x4000, free, mayAll)
	m.lay(t, 0x5000, base-page, mayAll)
	m.lay(t, 0x6000, base+16*page, mayAll)
	m.lay(t, 0x7000, 0, mayAll)
	m.lay(t, 0x8000, api.MaxPa-page, mayAll)
	if e := m.Free(free); e != api.OK {
		t.Fatal(e)
	}
	for _, pc := range []uint64{0x4000, 0x4ffc, 0x5000, 0x5ffc, 0x6000, 0x7000, 0x8000, 0x8ffc} {
		m.checkTrap(t, "no held frame", with(pc, map[int]uint64{1: 2}), trapOf(api.CauseFetchAccess, pc))
	}
}

// The first frame is held: what stands there is fetched, and is not for a user.
func TestFetchFromTheFirstFrame(t *testing.T) {
	m := newMachine(t)
	m.lay(t, 0, base, mayAll)
	m.checkTrap(t, "sret", api.Regs{}, trapOf(api.CauseIllegal, api.TrampWord))
	m.checkTrap(t, "the word 0", api.Regs{Pc: 4}, trapOf(api.CauseIllegal, 0))
}

func TestFetchAtThePagesEnd(t *testing.T) {
	m, code, _ := example(t)
	m.put(t, code+0xffc, nop)
	m.checkDone(t, "the last word", api.Regs{Pc: 0xffc}, api.Regs{Pc: 0x1000})
	m.checkTrap(t, "behind it", api.Regs{Pc: 0x1000}, trapOf(api.CauseFetchPage, 0x1000))
}

// highest gives a machine with a page at the very end of the addresses, which no Map lays down.
func highest(t *testing.T) (m machine, pa uint64) {
	t.Helper()
	m = newMachine(t)
	middle, low, pa := m.frame(t), m.frame(t), m.frame(t)
	for at, e := range map[uint64]uint64{
		m.root + 511*8: middle/page<<10 | api.PteV,
		middle + 511*8: low/page<<10 | api.PteV,
		low + 511*8:    pa/page<<10 | mayAll | api.PteV,
	} {
		m.Store(at, 8, e)
	}
	return m, pa
}

func TestPcWraps(t *testing.T) {
	const last = 1<<64 - 4
	for _, c := range []struct {
		what string
		word uint32
		want api.Regs
	}{
		{"nop", nop, api.Regs{}},
		{"auipc x5, 1", 0x00001297, with(0, map[int]uint64{5: 0xffc})},
		{"jal x5, 8", 0x008002EF, with(4, map[int]uint64{5: 0})},
		{"beq x0, x0, 16", 0x00000863, with(12, nil)},
		{"beq x0, x0, -4", 0xFE000EE3, with(last-4, nil)},
	} {
		m, pa := highest(t)
		m.put(t, pa+0xffc, c.word)
		m.checkDone(t, c.what, api.Regs{Pc: last}, c.want)
	}
}

// A word is four bytes, the low one first.
func TestWordsBytes(t *testing.T) {
	m, code, _ := example(t)
	m.Write(code+8, []byte{0x13, 0x05, 0xA0, 0x00, 0xff})
	m.checkDone(t, "addi a0, zero, 10", api.Regs{Pc: 8}, with(12, map[int]uint64{10: 10}))
}

func TestWordsThatAreIllegal(t *testing.T) {
	m, code, _ := example(t)
	words := []uint32{
		0, 0xFFFFFFFF, 0x00008082, 0x00000001, 0x00000002, 0x0000000B, // no words
		0x02A5959B, 0x00001067, 0x00002063, 0x00007003, 0x00004023, 0x04000033, 0x00000173, 0x0000200F, // nearly words
		0x10200073, 0x30200073, 0x10500073, // sret, mret, wfi
		0x12000073, 0x12B50073, // sfence.vma
		0x00200073, // uret, which is none here
	}
	for _, csr := range []uint32{0, 1, 0x100, 0x105, 0x180, 0x300, 0xC00, 0xC01, 0xC02, 0xFFF} {
		for _, f3 := range []uint32{1, 2, 3, 5, 6, 7} {
			words = append(words, csr<<20|f3<<12|0x73, csr<<20|11<<15|f3<<12|10<<7|0x73)
		}
	}
	for _, w := range words {
		m.put(t, code+12, w)
		m.checkTrap(t, "illegal", with(12, map[int]uint64{10: 1, 11: 2}), trapOf(api.CauseIllegal, uint64(w)))
	}
}

// All that Decode takes is done, or is one of those that the chapter names.
func TestWhatIsForNoUser(t *testing.T) {
	m, code, _ := example(t)
	m.lay(t, 0x8000, m.frame(t), mayWrite)
	for op := 1; op < api.Ops; op++ {
		word, err := insn.Encode(api.Insn{Op: op})
		if err != nil {
			t.Fatal(err)
		}
		m.put(t, code+8, word)
		_, trap := hart.Step(m.Ram, m.root, api.Regs{Pc: 8})
		illegal := trap.Taken && trap.Cause == api.CauseIllegal
		if want := op >= api.OpSRET; illegal != want {
			t.Errorf("%s: %+v", insn.Name(op), trap)
		}
	}
}

func TestBreakAndCall(t *testing.T) {
	m, code, _ := example(t)
	m.put(t, code, 0x00000073, 0x00100073)
	m.put(t, code+0xff8, 0x00000073, 0x00100073)
	all := api.Regs{}
	for i := range all.X {
		all.X[i] = uint64(i)<<60 | 0xabc
	}
	for _, pc := range []uint64{0, 0xff8} {
		all.Pc = pc
		m.checkTrap(t, "ecall", all, trapOf(api.CauseCall, 0))
		all.Pc = pc + 4
		m.checkTrap(t, "ebreak", all, trapOf(api.CauseBreak, pc+4))
	}
}

// Tables that are none, and memories that nobody made.
func TestWrongMemories(t *testing.T) {
	made, code, _ := example(t)
	made.put(t, code, nop)
	free := made.frame(t)
	made.Free(free)
	for _, root := range []uint64{0, 1, base, base - page, base + 16*page, free, made.root + 8, made.root + 1, code + page/2, 1<<64 - page, 1<<64 - 1} {
		m := machine{made.Ram, root}
		m.checkTrap(t, "no root", with(0, map[int]uint64{1: 9}), trapOf(api.CauseFetchPage, 0))
		m.checkTrap(t, "no root, off its place", with(2, map[int]uint64{1: 9}), trapOf(api.CauseFetchAlign, 2))
	}
	for _, r := range []*ram.Ram{nil, {}} {
		for _, root := range []uint64{0, base, base + page, 1<<64 - 1} {
			for _, pc := range []uint64{0, 4, base, 1<<64 - 4} {
				got, trap := hart.Step(r, root, with(pc, map[int]uint64{0: 5, 1: 6}))
				if trap != trapOf(api.CauseFetchPage, pc) || got != with(pc, map[int]uint64{1: 6}) {
					t.Errorf("no memory: %x, %+v", got, trap)
				}
			}
			got, trap := hart.Step(r, root, with(3, map[int]uint64{0: 5, 1: 6}))
			if trap != trapOf(api.CauseFetchAlign, 3) || got != with(3, map[int]uint64{1: 6}) {
				t.Errorf("no memory: %x, %+v", got, trap)
			}
		}
	}
}
