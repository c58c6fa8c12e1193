package asm_test

import (
	"math"
	"math/big"
	"reflect"
	"testing"

	"hartix/alu"
	"hartix/api"
	"hartix/asm"
	"hartix/insn"
)

func bigOf(v uint64) *big.Int { return new(big.Int).SetUint64(v) }

// loadEdges: numbers around the ends of each way, around each power of two, and with each count of lowest zeros.
func loadEdges() []uint64 {
	var edges []uint64
	around := func(v uint64) {
		for _, d := range []uint64{0, 1, 2, 2047, 2048, 2049, 4095, 4096, 1 << 31, 1 << 32} {
			edges = append(edges, v+d, v-d)
		}
	}
	for k := range 64 {
		around(1 << k)
		around(-(1 << k))
	}
	around(0)
	around(1<<31 - 2048)
	for k := range 64 {
		edges = append(edges, 0x123456789ABCDEF1<<k, 0xFEDCBA9876543211>>k, 0x8000000000000801>>k, 0xfffffffffffff800<<k, 0x7ff<<k|0x800)
	}
	return edges
}

// done does instructions one after the other, by layer 2, from any value of the register.
func done(t *testing.T, list []api.Insn, rd int, from uint64) uint64 {
	t.Helper()
	var x [32]uint64
	x[rd] = from
	like := map[int]int{api.OpADDI: api.OpADD, api.OpADDIW: api.OpADDW, api.OpSLLI: api.OpSLL}
	for _, i := range list {
		if _, err := insn.Encode(i); err != nil {
			t.Fatalf("%+v: %v", i, err)
		}
		if i.Op == api.OpLUI {
			x[i.Rd] = uint64(i.Imm)
			continue
		}
		v, err := alu.Do(like[i.Op], x[i.Rs1], uint64(i.Imm))
		if err != nil {
			t.Fatalf("%+v: %v", i, err)
		}
		x[i.Rd] = v
	}
	return x[rd]
}

func checkLoad(t *testing.T, value uint64, rd int) {
	t.Helper()
	got := asm.Load(value, rd)
	if want := wantLoad(bigOf(value), rd); !reflect.DeepEqual(got, want) {
		t.Fatalf("%#x: %+v, not %+v", value, got, want)
	}
	if len(got) > 8 {
		t.Fatalf("%#x: %d instructions", value, len(got))
	}
	if rd == 0 {
		return
	}
	for _, from := range []uint64{0, math.MaxUint64, 0x5a5a5a5a5a5a5a5a} {
		if v := done(t, got, rd, from); v != value {
			t.Fatalf("%#x from %#x: %#x by %+v", value, from, v, got)
		}
	}
}

// P6.3, P6.6.
func TestLoadEdges(t *testing.T) {
	for _, v := range loadEdges() {
		checkLoad(t, v, 7)
		checkLoad(t, -v, 31)
		checkLoad(t, ^v, 1)
		checkLoad(t, v, 0)
	}
}

func TestLoadDrawn(t *testing.T) {
	s := scatter(61)
	lengths := map[int]int{}
	for range 60000 {
		v := s.next() >> s.below(64) << s.below(64)
		if s.below(3) == 0 {
			v = -v
		}
		rd := s.below(32)
		checkLoad(t, v, rd)
		lengths[len(asm.Load(v, rd))]++
	}
	for n := 1; n <= 8; n++ {
		if lengths[n] < 20 {
			t.Errorf("%d values took %d instructions", lengths[n], n)
		}
	}
}

func TestLoadEveryRegister(t *testing.T) {
	for rd := range 32 {
		for _, v := range []uint64{0, 2047, 2048, 1 << 31, 0x123456789abcdef1} {
			checkLoad(t, v, rd)
		}
	}
	for _, rd := range []int{-1, 32, 33, 64, math.MinInt, math.MaxInt, 1 << 32} {
		for _, v := range []uint64{0, 4096, 1 << 63} {
			if got := asm.Load(v, rd); got != nil {
				t.Errorf("register %d: %+v", rd, got)
			}
		}
	}
}

// Every number of 12 bits, and their neighbours.
func TestLoadSmall(t *testing.T) {
	for v := -5000; v <= 5000; v++ {
		checkLoad(t, uint64(v), 3)
		want := 1
		if (v < -2048 || v > 2047) && v%4096 != 0 {
			want = 2
		}
		if got := asm.Load(uint64(v), 3); len(got) != want {
			t.Errorf("%d: %+v", v, got)
		}
	}
}

// DOC.md, Memory: each answer is new.
func TestLoadsAreNew(t *testing.T) {
	for _, v := range []uint64{1, 1 << 20, 0x123456789abcdef1} {
		a, b := asm.Load(v, 3), asm.Load(v, 3)
		clear(a[:cap(a)])
		if !reflect.DeepEqual(b, wantLoad(bigOf(v), 3)) {
			t.Errorf("%#x: %+v", v, b)
		}
	}
}
