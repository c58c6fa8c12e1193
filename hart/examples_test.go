package hart_test

import (
	"testing"

	"hartix/api"
	"hartix/hart"
	"hartix/ram"
	"hartix/sv39"
)

const (
	mayRead    = api.PteR | api.PteU | api.PteA
	mayWrite   = mayRead | api.PteW | api.PteD
	mayFetch   = api.PteX | api.PteU | api.PteA
	mayAll     = mayWrite | api.PteX
	mayExecute = mayRead | api.PteX
)

// machine is a memory with one table.
type machine struct {
	*ram.Ram
	root uint64
}

func newMachine(t *testing.T) machine {
	t.Helper()
	r, err := ram.New(16)
	if err != nil {
		t.Fatal(err)
	}
	root, e := sv39.New(r)
	if e != api.OK {
		t.Fatal(e)
	}
	return machine{r, root}
}

func (m machine) frame(t *testing.T) uint64 {
	t.Helper()
	pa, ok := m.Alloc()
	if !ok {
		t.Fatal("no frame is free")
	}
	return pa
}

// lay maps va to pa.
func (m machine) lay(t *testing.T, va, pa, perm uint64) {
	t.Helper()
	if e := sv39.Map(m.Ram, m.root, va, pa, perm); e != api.OK {
		t.Fatalf("Map(%x, %x, %x) = %d", va, pa, perm, e)
	}
}

// page maps va to a new frame, and tells that.
func (m machine) page(t *testing.T, va, perm uint64) uint64 {
	t.Helper()
	pa := m.frame(t)
	m.lay(t, va, pa, perm)
	return pa
}

// put writes words from pa on.
func (m machine) put(t *testing.T, pa uint64, words ...uint32) {
	t.Helper()
	for i, w := range words {
		if !m.Store(pa+4*uint64(i), 4, uint64(w)) {
			t.Fatalf("no memory at %x", pa)
		}
	}
}

// example is what the chapter's examples begin with: a page at 0 that may be fetched and read, one at 1000H that may be read and written.
func example(t *testing.T) (m machine, code, data uint64) {
	t.Helper()
	m = newMachine(t)
	code = m.page(t, 0, mayExecute)
	data = m.page(t, 0x1000, mayWrite)
	return m, code, data
}

func trapOf(cause, value uint64) api.Trap {
	return api.Trap{Taken: true, Cause: cause, Value: value}
}

// checkTrap asks for a step that traps and changes nothing; it takes x0 with something in it.
func (m machine) checkTrap(t *testing.T, what string, regs api.Regs, want api.Trap) {
	t.Helper()
	before := m.Image()
	given := regs
	given.X[0] = 0x123456789
	regs.X[0] = 0
	got, trap := hart.Step(m.Ram, m.root, given)
	if trap != want {
		t.Errorf("%s: %+v, want %+v", what, trap, want)
	}
	if got != regs {
		t.Errorf("%s: the registers are %x, want %x", what, got, regs)
	}
	same, err := ram.FromImage(before)
	if err != nil {
		t.Fatal(err)
	}
	checkMemory(t, what, m.Ram, same)
}

// checkDone asks for a step that is done; want's x0 is 0.
func (m machine) checkDone(t *testing.T, what string, regs, want api.Regs) {
	t.Helper()
	regs.X[0] = 0x123456789
	got, trap := hart.Step(m.Ram, m.root, regs)
	if trap != (api.Trap{}) {
		t.Errorf("%s: %+v", what, trap)
	}
	if got != want {
		t.Errorf("%s: the registers are %x, want %x", what, got, want)
	}
}

func with(pc uint64, x map[int]uint64) api.Regs {
	regs := api.Regs{Pc: pc}
	for i, v := range x {
		regs.X[i] = v
	}
	return regs
}

func TestExamples(t *testing.T) {
	begin := with(0, map[int]uint64{1: 0x1000})
	for _, c := range []struct {
		what string
		word uint32
		want api.Regs
	}{
		{"addi a0, zero, 10", 0x00A00513, with(4, map[int]uint64{1: 0x1000, 10: 10})},
		{"jalr a0, 0(x0)", 0x00000567, with(0, map[int]uint64{1: 0x1000, 10: 4})},
		{"fence", 0x0000000F, with(4, map[int]uint64{1: 0x1000})},
		{"addi x0, x0, 1", 0x00100013, with(4, map[int]uint64{1: 0x1000})},
	} {
		m, code, _ := example(t)
		m.put(t, code, c.word)
		before := twin(t, m.Ram)
		m.checkDone(t, c.what, begin, c.want)
		checkMemory(t, c.what, m.Ram, before)
	}
	for _, c := range []struct {
		what string
		word uint32
		want api.Trap
	}{
		{"ecall", 0x00000073, trapOf(8, 0)},
		{"ld a0, 2(x1)", 0x0020B503, trapOf(4, 0x1002)},
		{"sd x0, 0(x0)", 0x00003023, trapOf(15, 0)},
		{"jalr x0, 2(x0)", 0x00200067, trapOf(0, 2)},
		{"csrrs a0, time, x0", 0xC0102573, trapOf(2, 0xC0102573)},
	} {
		m, code, _ := example(t)
		m.put(t, code, c.word)
		m.checkTrap(t, c.what, begin, c.want)
	}
}

func TestExampleOfStoreAndLoad(t *testing.T) {
	m, code, data := example(t)
	m.put(t, code, 0x00A0B023, 0x0000B583)
	const v = 0xF1E2D3C4B5A69788
	m.checkDone(t, "sd", with(0, map[int]uint64{1: 0x1000, 10: v}), with(4, map[int]uint64{1: 0x1000, 10: v}))
	if got, _ := m.Load(data, 8); got != v {
		t.Errorf("the memory has %x", got)
	}
	m.checkDone(t, "ld", with(4, map[int]uint64{1: 0x1000, 10: v}), with(8, map[int]uint64{1: 0x1000, 10: v, 11: v}))
}
