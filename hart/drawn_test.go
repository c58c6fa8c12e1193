package hart_test

import (
	"testing"

	"hartix/api"
	"hartix/hart"
	"hartix/insn"
	"hartix/ram"
)

const drawnFrames = 14

// drawnMachine gives a memory whose table leads, at few addresses, to anything: pages with any rights, great leaves, frames that are free, and no RAM at all.
func drawnMachine(t *testing.T, s *scatter) (machine, []uint64) {
	t.Helper()
	m := newMachineOf(t, drawnFrames)
	middle, low := m.frame(t), m.frame(t)
	var frames []uint64
	for range 6 {
		frames = append(frames, m.frame(t))
	}
	free := m.frame(t)
	m.Free(free)
	leadsTo := func() uint64 {
		if s.below(5) > 0 {
			return pick(s, frames...)
		}
		return pick(s, free, base, base-page, base+drawnFrames*page, 0, 1<<56-page, m.root, low)
	}
	rights := func() uint64 {
		if s.below(3) > 0 {
			return pick[uint64](s, mayAll, mayWrite, mayExecute) | bitV
		}
		return s.next() & 0x3ff
	}
	m.Store(m.root, 8, middle/page<<10|bitV)
	m.Store(m.root+8, 8, base/page<<10|rights())
	m.Store(m.root+511*8, 8, middle/page<<10|bitV)
	m.Store(middle, 8, low/page<<10|bitV)
	m.Store(middle+8, 8, base/page<<10|rights())
	m.Store(middle+511*8, 8, low/page<<10|bitV)
	for i := range uint64(16) {
		m.Store(low+8*i, 8, leadsTo()/page<<10|rights())
	}
	m.Store(low+511*8, 8, leadsTo()/page<<10|rights())
	if s.below(4) == 0 {
		m.Store(pick(s, m.root, middle, low)+8*uint64(s.below(3)), 8, s.next()>>s.below(64))
	}
	return m, append(frames, base)
}

func newMachineOf(t *testing.T, frames int) machine {
	t.Helper()
	r, err := ram.New(frames)
	if err != nil {
		t.Fatal(err)
	}
	root, ok := r.Alloc()
	if !ok {
		t.Fatal("no frame is free")
	}
	return machine{r, root}
}

// drawnPage gives the first address of a page that the drawn table may have.
func drawnPage(s *scatter) uint64 {
	va := uint64(s.below(16)) * page
	switch s.below(12) {
	case 0:
		return va + 1<<21
	case 1:
		return va + 1<<30
	case 2:
		return minus(page)
	case 3:
		return pick[uint64](s, 16*page, 1<<38, 1<<39, 1<<63, 1<<22, 2<<30, minus(1<<39))
	}
	return va
}

// drawnWord gives a word: mostly an operation with any operands, its offset small.
func drawnWord(s *scatter) uint32 {
	if s.below(10) == 0 {
		return pick(s, uint32(s.next()), uint32(s.next())|3, 0x73, 0x100073, 0x10200073, 0)
	}
	i := api.Insn{Op: 1 + s.below(api.Ops-1), Rd: s.below(32), Rs1: s.below(32), Rs2: s.below(32), Imm: int64(s.below(4096)) - 2048}
	if s.below(3) == 0 {
		i.Op = api.OpLB + s.below(api.OpSD-api.OpLB+1)
	}
	switch insn.Shape(i.Op) {
	case api.ShapeL, api.ShapeS:
		if s.below(4) > 0 {
			i.Imm = i.Imm / 64 * 8
		}
	case api.ShapeR, api.ShapeV:
		i.Imm = 0
	case api.ShapeH:
		i.Imm &= 63
	case api.ShapeW, api.ShapeCI:
		i.Imm &= 31
	case api.ShapeF:
		i.Imm &= 4095
	case api.ShapeB, api.ShapeJ:
		i.Imm *= 2
	case api.ShapeU:
		i.Imm *= page
	}
	return drawnEncoded(s, i)
}

// drawnEncoded lays down what is left of i when the fields that its shape does not have are gone.
func drawnEncoded(s *scatter, i api.Insn) uint32 {
	switch insn.Shape(i.Op) {
	case api.ShapeI, api.ShapeL, api.ShapeH, api.ShapeW, api.ShapeF:
		i.Rs2 = 0
	case api.ShapeS, api.ShapeB, api.ShapeV:
		i.Rd = 0
	case api.ShapeU, api.ShapeJ:
		i.Rs1, i.Rs2 = 0, 0
	case api.ShapeC:
		i.Rs2, i.Imm, i.Csr = 0, 0, s.below(4096)
	case api.ShapeCI:
		i.Rs1, i.Rs2, i.Csr = 0, 0, s.below(4096)
	case api.ShapeZ:
		i.Rd, i.Rs1, i.Rs2, i.Imm = 0, 0, 0, 0
	}
	word, err := insn.Encode(i)
	if err != nil {
		panic(err)
	}
	return word
}

func drawnRegs(s *scatter) api.Regs {
	var regs api.Regs
	for i := range regs.X {
		switch s.below(8) {
		case 0:
			regs.X[i] = s.next()
		case 1:
			regs.X[i] = s.next() >> s.below(64)
		case 2:
			regs.X[i] = pick[uint64](s, 0, 1, minus(1), 1<<63, 1<<63-1, 1<<31, minus(1<<31), 1<<32-1)
		default:
			regs.X[i] = drawnPage(s) + uint64(s.below(page/8))*8 + uint64(pick(s, 0, 0, 0, 0, 0, 4, 2, 1))
		}
	}
	regs.Pc = drawnPage(s) + uint64(s.below(page/4))*4
	if s.below(20) == 0 {
		regs.Pc = s.next()
	}
	return regs
}

// drawnStep makes a machine that is at a drawn word, if its table lets it be fetched.
func drawnStep(t *testing.T, s *scatter) (machine, api.Regs) {
	t.Helper()
	m, frames := drawnMachine(t, s)
	for _, f := range frames {
		for range 64 {
			m.Store(f+8*uint64(s.below(page/8)), 8, s.next())
		}
	}
	regs := drawnRegs(s)
	for range 3 {
		pa, ok := found(m.Ram, m.root, regs.Pc, bitU|bitA|bitX, places{})
		if ok && m.Store(pa, 4, uint64(drawnWord(s))) {
			break
		}
		if s.below(3) > 0 {
			regs.Pc = drawnRegs(s).Pc
		}
	}
	return m, regs
}

func (m machine) checkStep(t *testing.T, regs api.Regs) wanted {
	t.Helper()
	other := twin(t, m.Ram)
	want := wantStep(other, m.root, regs)
	got, trap := hart.Step(m.Ram, m.root, regs)
	if got != want.regs || trap != want.trap {
		t.Fatalf("of %x:\n%x, %+v, want\n%x, %+v", regs, got, trap, want.regs, want.trap)
	}
	checkMemory(t, "a step", m.Ram, other)
	return want
}

// tally counts what drawn steps come to: causes, and operations that were done.
type tally struct {
	causes map[uint64]int
	done   [api.Ops]int
}

func (c *tally) count(t *testing.T, m machine, regs api.Regs, want wanted) {
	t.Helper()
	if want.trap.Taken {
		c.causes[want.trap.Cause]++
		return
	}
	pa, _ := found(m.Ram, m.root, regs.Pc, 0, places{})
	word, _ := m.Load(pa, 4)
	if i, err := insn.Decode(uint32(word)); err == nil {
		c.done[i.Op]++
	}
}

func (c *tally) check(t *testing.T, least int) {
	t.Helper()
	for _, cause := range []uint64{0, 1, 2, 3, 4, 5, 6, 7, 8, 12, 13, 15} {
		if c.causes[cause] < least {
			t.Errorf("cause %d came %d times", cause, c.causes[cause])
		}
	}
	for op := api.OpLUI; op <= api.OpFENCEI; op++ {
		if c.done[op] < least {
			t.Errorf("%s was done %d times", insn.Name(op), c.done[op])
		}
	}
}

func TestDrawnSteps(t *testing.T) {
	s := scatter(5)
	seen := tally{causes: map[uint64]int{}}
	for range 12000 {
		m, regs := drawnStep(t, &s)
		before := machine{twin(t, m.Ram), m.root}
		seen.count(t, before, regs, m.checkStep(t, regs))
	}
	seen.check(t, 10)
}

// Programs of drawn words: behind a trap they go on elsewhere.
func TestDrawnPrograms(t *testing.T) {
	s := scatter(6)
	steps := 0
	for range 150 {
		m := newMachine(t)
		code := m.page(t, 0, mayAll)
		m.page(t, 0x1000, mayWrite)
		for i := range uint64(page / 4) {
			m.Store(code+4*i, 4, uint64(drawnWord(&s)))
		}
		regs := drawnRegs(&s)
		regs.Pc = 0x800
		for range 60 {
			want := m.checkStep(t, regs)
			regs = want.regs
			if want.trap.Taken {
				regs.Pc = uint64(s.below(page/4)) * 4
			} else {
				steps++
			}
			regs.X[s.below(32)] = uint64(s.below(0x2000/8)) * 8
		}
	}
	if steps < 3000 {
		t.Errorf("%d steps only", steps)
	}
}

// garbled gives the memory with other bytes in its held frames, but for some.
func (m machine) garbled(t *testing.T, s *scatter, but places) *ram.Ram {
	t.Helper()
	img := m.Image()
	for _, f := range img.Held {
		by := s.next()
		for j := range f.Data {
			f.Data[j] ^= byte(by>>(j%57)) | 1
		}
	}
	r, err := ram.FromImage(img)
	if err != nil {
		t.Fatal(err)
	}
	for pa := range but {
		b, _ := m.Read(pa, 1)
		r.Write(pa, b)
	}
	return r
}

// P5.4: bytes that the step does not reach do not matter to it, and are as they were behind it; those of the store alone are written.
func TestDrawnStepsReachNoMore(t *testing.T) {
	s := scatter(7)
	stores := 0
	for range 4000 {
		m, regs := drawnStep(t, &s)
		want := wantStep(twin(t, m.Ram), m.root, regs)
		other := m.garbled(t, &s, want.reached)
		before := twin(t, other)
		regs.X[0] = s.next()
		got, trap := hart.Step(other, m.root, regs)
		if got != want.regs || trap != want.trap {
			t.Fatalf("of %x among other bytes:\n%x, %+v, want\n%x, %+v", regs, got, trap, want.regs, want.trap)
		}
		if want.wrote > 0 {
			stores++
			b, _ := other.Read(want.at, want.wrote)
			before.Write(want.at, b)
		}
		checkMemory(t, "among other bytes", other, before)
	}
	if stores < 40 {
		t.Errorf("%d stores only", stores)
	}
}

// P5.4: x0 is 0, and at most the register that insn.Writes tells is another one.
func TestDrawnStepsWriteOneRegister(t *testing.T) {
	s := scatter(8)
	m := newMachine(t)
	code := m.page(t, 0, mayAll)
	m.page(t, 0x1000, mayWrite)
	for range 40000 {
		word := drawnWord(&s)
		m.put(t, code, word)
		regs := drawnRegs(&s)
		regs.Pc = 0
		i, _ := insn.Decode(word)
		got, trap := hart.Step(m.Ram, m.root, regs)
		if got.X[0] != 0 {
			t.Fatalf("%08x: x0 is %x", word, got.X[0])
		}
		for r := 1; r < 32; r++ {
			if got.X[r] != regs.X[r] && (trap.Taken || r != insn.Writes(i)) {
				t.Fatalf("%08x: x%d is %x, was %x; %+v", word, r, got.X[r], regs.X[r], trap)
			}
		}
		if trap.Taken != (trap != api.Trap{}) || trap.Taken && got.Pc != 0 {
			t.Fatalf("%08x: Pc %x, %+v", word, got.Pc, trap)
		}
	}
}

// What was told does not hang on what was asked before: the same step of the same memory is told alike again.
func TestStepsAreToldAlike(t *testing.T) {
	s := scatter(9)
	for range 500 {
		m, regs := drawnStep(t, &s)
		other := twin(t, m.Ram)
		a, trapA := hart.Step(m.Ram, m.root, regs)
		hart.Step(m.Ram, m.root, drawnRegs(&s))
		b, trapB := hart.Step(other, m.root, regs)
		if a != b || trapA != trapB {
			t.Fatalf("of %x: %x, %+v, then %x, %+v", regs, a, trapA, b, trapB)
		}
	}
}
