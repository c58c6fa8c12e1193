package hart_test

import (
	"testing"

	"hartix/api"
)

// access is an operation, and how many bytes it moves.
type access struct{ op, n int }

func loads() []access {
	return []access{{api.OpLB, 1}, {api.OpLH, 2}, {api.OpLW, 4}, {api.OpLD, 8}, {api.OpLBU, 1}, {api.OpLHU, 2}, {api.OpLWU, 4}}
}

func stores() []access {
	return []access{{api.OpSB, 1}, {api.OpSH, 2}, {api.OpSW, 4}, {api.OpSD, 8}}
}

func TestLoads(t *testing.T) {
	m, code, data := example(t)
	m.Write(data+16, []byte{0x81, 0x92, 0x23, 0x34, 0x45, 0xd6, 0x67, 0xf8})
	for _, c := range []struct {
		op   int
		from int64
		v    uint64
	}{
		{api.OpLB, 16, 0xffffffffffffff81}, {api.OpLB, 18, 0x23}, {api.OpLB, 23, 0xfffffffffffffff8},
		{api.OpLBU, 16, 0x81}, {api.OpLBU, 18, 0x23}, {api.OpLBU, 23, 0xf8},
		{api.OpLH, 16, 0xffffffffffff9281}, {api.OpLH, 18, 0x3423}, {api.OpLH, 22, 0xfffffffffffff867},
		{api.OpLHU, 16, 0x9281}, {api.OpLHU, 18, 0x3423}, {api.OpLHU, 22, 0xf867},
		{api.OpLW, 16, 0x34239281}, {api.OpLW, 20, 0xfffffffff867d645},
		{api.OpLWU, 16, 0x34239281}, {api.OpLWU, 20, 0xf867d645},
		{api.OpLD, 16, 0xf867d64534239281}, {api.OpLD, 8, 0}, {api.OpLD, 24, 0},
	} {
		before := twin(t, m.Ram)
		what := m.at(t, code, 0, api.Insn{Op: c.op, Rd: 3, Rs1: 4, Imm: c.from})
		before.Store(code, 4, uint64(wordOf(t, api.Insn{Op: c.op, Rd: 3, Rs1: 4, Imm: c.from})))
		m.checkDone(t, what, with(0, map[int]uint64{3: 9, 4: 0x1000}), with(4, map[int]uint64{3: c.v, 4: 0x1000}))
		checkMemory(t, what, m.Ram, before)
		m.at(t, code, 0, api.Insn{Op: c.op, Rd: 4, Rs1: 4, Imm: c.from - 24})
		m.checkDone(t, what+", Rd is Rs1", with(0, map[int]uint64{4: 0x1018}), with(4, map[int]uint64{4: c.v}))
		m.at(t, code, 0, api.Insn{Op: c.op, Rd: 0, Rs1: 4, Imm: c.from})
		m.checkDone(t, what+" to x0", with(0, map[int]uint64{4: 0x1000}), with(4, map[int]uint64{4: 0x1000}))
	}
}

func TestStores(t *testing.T) {
	const v = 0xf1e2d3c4b5a69788
	for _, a := range stores() {
		for _, from := range []int64{0, 8, 16, 2040} {
			m, code, data := example(t)
			for i := range uint64(page / 8) {
				m.Store(data+8*i, 8, 0x1111111111111111)
			}
			what := m.at(t, code, 0, api.Insn{Op: a.op, Rs1: 4, Rs2: 5, Imm: from})
			want := twin(t, m.Ram)
			begin := with(0, map[int]uint64{4: 0x1000, 5: v})
			m.checkDone(t, what, begin, with(4, map[int]uint64{4: 0x1000, 5: v}))
			low := []byte{0x88, 0x97, 0xa6, 0xb5, 0xc4, 0xd3, 0xe2, 0xf1}[:a.n]
			want.Write(data+uint64(from), low)
			checkMemory(t, what, m.Ram, want)
		}
	}
}

// At every place of a word: done, if it is a multiple of the bytes, else a trap; at a page's end, and where there is none, too.
func TestPlaces(t *testing.T) {
	m, code, _ := example(t)
	for from := range uint64(16) {
		for _, where := range []uint64{0x1000, 0x1ff0, 0x5000, 1 << 40, 1<<64 - 16} {
			va := where + from
			mapped := where < 0x2000
			for _, a := range loads() {
				i := api.Insn{Op: a.op, Rd: 3, Rs1: 4, Imm: -5}
				m.checkAccess(t, code, i, va, mapped, va%uint64(a.n) == 0, api.CauseLoadAlign, api.CauseLoadPage)
				i.Rd = 0
				m.checkAccess(t, code, i, va, mapped, va%uint64(a.n) == 0, api.CauseLoadAlign, api.CauseLoadPage)
			}
			for _, a := range stores() {
				i := api.Insn{Op: a.op, Rs1: 4, Imm: -5}
				m.checkAccess(t, code, i, va, mapped, va%uint64(a.n) == 0, api.CauseStoreAlign, api.CauseStorePage)
			}
		}
	}
}

// checkAccess asks for an access of zeros at va.
func (m machine) checkAccess(t *testing.T, code uint64, i api.Insn, va uint64, mapped, inPlace bool, align, noPage uint64) {
	t.Helper()
	what := m.at(t, code, 0, i)
	begin := with(0, map[int]uint64{i.Rs1: va - uint64(i.Imm)})
	switch {
	case !inPlace:
		m.checkTrap(t, what, begin, trapOf(align, va))
	case !mapped:
		m.checkTrap(t, what, begin, trapOf(noPage, va))
	default:
		want := begin
		want.Pc = 4
		m.checkDone(t, what, begin, want)
	}
}

// The address wraps: 2^64 - 8 and 16 are 8.
func TestAddressesWrap(t *testing.T) {
	m, code, data := example(t)
	m.lay(t, 0x40000000, data, mayWrite)
	m.at(t, code, 0, api.Insn{Op: api.OpLW, Rd: 3, Rs1: 4, Imm: 16})
	m.put(t, code+8, 0x76543210)
	m.checkDone(t, "lw", with(0, map[int]uint64{4: minus(8)}), with(4, map[int]uint64{3: 0x76543210, 4: minus(8)}))
	m.at(t, code, 0, api.Insn{Op: api.OpLW, Rd: 3, Rs1: 4, Imm: -16})
	m.checkTrap(t, "lw below 0", with(0, map[int]uint64{4: 8}), trapOf(api.CauseLoadPage, minus(8)))
	h, pa := highest(t)
	h.put(t, pa, wordOf(t, api.Insn{Op: api.OpSD, Rs1: 4, Rs2: 5, Imm: -8}))
	h.checkDone(t, "sd below 0", with(minus(4096), map[int]uint64{5: 77}), with(minus(4092), map[int]uint64{5: 77}))
	if v, _ := h.Load(pa+page-8, 8); v != 77 {
		t.Errorf("sd below 0 wrote %d", v)
	}
}

// What a page lets: R for loads; W and D for stores; U and A for both.
func TestRights(t *testing.T) {
	for _, c := range []struct {
		perm        uint64
		load, store bool
	}{
		{mayRead, true, false},
		{mayWrite, true, true},
		{mayAll, true, true},
		{mayAll | api.PteG, true, true},
		{mayFetch, false, false},
		{mayFetch | api.PteD, false, false},
		{mayExecute, true, false},
		{mayWrite &^ api.PteD, true, false},
		{mayWrite &^ api.PteA, false, false},
		{mayWrite &^ api.PteU, false, false},
		{mayRead | api.PteD, true, false},
	} {
		m, code, _ := example(t)
		m.page(t, 0x3000, c.perm)
		for _, a := range loads() {
			m.checkAccess(t, code, api.Insn{Op: a.op, Rd: 3, Rs1: 4}, 0x3008, c.load, true, 0, api.CauseLoadPage)
		}
		for _, a := range stores() {
			m.checkAccess(t, code, api.Insn{Op: a.op, Rs1: 4}, 0x3008, c.store, true, 0, api.CauseStorePage)
		}
	}
}

// The bits A and D stay as they are: neither is set by an access, nor is the entry written at all.
func TestEntriesStay(t *testing.T) {
	m, code, data := example(t)
	m.at(t, code, 0, api.Insn{Op: api.OpSB, Rs1: 4, Rs2: 4, Imm: 1})
	want := twin(t, m.Ram)
	want.Write(data+1, []byte{0})
	m.checkDone(t, "sb", with(0, map[int]uint64{4: 0x1000}), with(4, map[int]uint64{4: 0x1000}))
	checkMemory(t, "sb", m.Ram, want)
	m.lay(t, 0x3000, data, mayWrite&^api.PteD)
	m.checkTrap(t, "sb without D", with(0, map[int]uint64{4: 0x3000}), trapOf(api.CauseStorePage, 0x3001))
	m.lay(t, 0x4000, data, mayWrite&^api.PteA)
	m.checkTrap(t, "sb without A", with(0, map[int]uint64{4: 0x4000}), trapOf(api.CauseStorePage, 0x4001))
}

// Bytes that are of no held frame.
func TestAccessesToNoHeldFrame(t *testing.T) {
	m, code, _ := example(t)
	free := m.frame(t)
	m.lay(t, 0x4000, free, mayAll)
	m.lay(t, 0x5000, base-page, mayAll)
	m.lay(t, 0x6000, base+16*page, mayAll)
	m.lay(t, 0x7000, 0, mayAll)
	m.lay(t, 0x8000, api.MaxPa-page, mayAll)
	m.lay(t, 0x9000, free, mayAll&^api.PteU)
	m.lay(t, 0xa000, free, mayRead)
	if e := m.Free(free); e != api.OK {
		t.Fatal(e)
	}
	raw, _ := m.Raw(free)
	for _, va := range []uint64{0x4000, 0x4ff8, 0x5000, 0x5ff8, 0x6000, 0x7000, 0x8ff8} {
		for _, a := range loads() {
			m.checkAccess(t, code, api.Insn{Op: a.op, Rd: 3, Rs1: 4}, va, false, true, 0, api.CauseLoadAccess)
			m.checkAccess(t, code, api.Insn{Op: a.op, Rd: 0, Rs1: 4}, va, false, true, 0, api.CauseLoadAccess)
		}
		for _, a := range stores() {
			m.checkAccess(t, code, api.Insn{Op: a.op, Rs1: 4}, va, false, true, 0, api.CauseStoreAccess)
		}
	}
	// The place is asked ahead of the page, the page ahead of the frame.
	m.checkAccess(t, code, api.Insn{Op: api.OpLH, Rd: 3, Rs1: 4}, 0x4001, true, false, api.CauseLoadAlign, 0)
	m.checkAccess(t, code, api.Insn{Op: api.OpSH, Rs1: 4}, 0x4001, true, false, api.CauseStoreAlign, 0)
	m.checkAccess(t, code, api.Insn{Op: api.OpLH, Rd: 3, Rs1: 4}, 0x9000, false, true, 0, api.CauseLoadPage)
	m.checkAccess(t, code, api.Insn{Op: api.OpSH, Rs1: 4}, 0xa000, false, true, 0, api.CauseStorePage)
	if now, _ := m.Raw(free); string(now) != string(raw) {
		t.Error("a free frame was written")
	}
}

// A great leaf leads to the bytes of its offset.
func TestGreatLeaves(t *testing.T) {
	for _, shift := range []int{30, 21} {
		m := newMachine(t)
		entry := m.root + 8
		if shift == 21 {
			middle := m.frame(t)
			m.Store(m.root, 8, middle/page<<10|api.PteV)
			entry = middle + 8
		}
		pa := m.frame(t)
		m.Store(entry, 8, base/page<<10|mayAll|api.PteV)
		va := uint64(1)<<shift + pa - base
		m.put(t, pa, wordOf(t, api.Insn{Op: api.OpSD, Rs1: 4, Rs2: 5, Imm: 24}), wordOf(t, api.Insn{Op: api.OpLHU, Rd: 6, Rs1: 4, Imm: 26}))
		begin := with(va, map[int]uint64{4: va, 5: 0x1122334455667788})
		behind := begin
		behind.Pc += 4
		m.checkDone(t, "sd", begin, behind)
		if v, _ := m.Load(pa+24, 8); v != 0x1122334455667788 {
			t.Errorf("sd wrote %x", v)
		}
		last := behind
		last.Pc += 4
		last.X[6] = 0x5566
		m.checkDone(t, "lhu", behind, last)
	}
}

// A program may write what it runs, and what a page of its own is a node of.
func TestStoresThatAreSeen(t *testing.T) {
	m := newMachine(t)
	code := m.page(t, 0, mayAll)
	m.put(t, code, wordOf(t, api.Insn{Op: api.OpSW, Rs2: 5, Imm: 4}), 0)
	m.checkDone(t, "sw", with(0, map[int]uint64{5: 0x00A00513}), with(4, map[int]uint64{5: 0x00A00513}))
	m.checkDone(t, "what was written", with(4, nil), with(8, map[int]uint64{10: 10}))

	m.lay(t, 0x1000, m.root, mayWrite)
	m.put(t, code, wordOf(t, api.Insn{Op: api.OpSD, Rs1: 4}))
	m.checkDone(t, "sd into the root", with(0, map[int]uint64{4: 0x1000}), with(4, map[int]uint64{4: 0x1000}))
	m.checkTrap(t, "no page any more", with(4, nil), trapOf(api.CauseFetchPage, 4))
}
