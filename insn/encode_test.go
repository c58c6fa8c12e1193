package insn_test

import (
	"fmt"
	"math"
	"testing"

	"hartix/api"
	"hartix/insn"
)

// checkInsn holds Encode, Decode of what it gives (P1.6), Reads and Writes (P1.5) against the chapter's tables.
func checkInsn(t *testing.T, r row, i api.Insn) {
	t.Helper()
	word, err := insn.Encode(i)
	at, reason := r.refusal(i)
	checkReads(t, r, i, reason == api.OK)
	if reason != api.OK {
		checkFault(t, fmt.Sprintf("Encode(%+v)", i), err, at, reason)
		if word != 0 {
			t.Errorf("Encode(%+v) gives %08X beside its refusal", i, word)
		}
		return
	}
	if want := r.wordOf(i); word != want || err != nil {
		t.Errorf("Encode(%+v) = %08X, %v; not %08X", i, word, err, want)
	}
	if back, err := insn.Decode(word); back != i || err != nil {
		t.Errorf("Decode(Encode(%+v)) = %+v, %v", i, back, err)
	}
}

// immEdges: least and greatest, the next ones beyond them, and numbers that agree with them in their low bits alone.
func immEdges(f form) []int64 {
	return []int64{
		0, 1, -1, 2, -f.every, f.every,
		f.least, f.least - 1, f.least + 1, f.least - f.every,
		f.most, f.most + 1, f.most - 1, f.most + f.every,
		f.least + 1<<32, f.most - 1<<32, 1 << 32, math.MinInt64, math.MaxInt64,
	}
}

// P1.3, and with it P1.5 and P1.6: every operation with all fields at their edges at one time, so that of several faults the first must hold.
func TestEncodeEdges(t *testing.T) {
	regs := []int{-1, 0, 17, 31, 32}
	csrs := []int{-1, 0, 2049, 4095, 4096}
	for _, r := range chapter(t) {
		for _, imm := range immEdges(forms[r.shape]) {
			for _, csr := range csrs {
				for k := range 125 {
					checkInsn(t, r, api.Insn{Op: r.op, Rd: regs[k%5], Rs1: regs[k/5%5], Rs2: regs[k/25], Imm: imm, Csr: csr})
				}
			}
		}
		if t.Failed() {
			t.FailNow()
		}
	}
}

// P1.3: numbers far beyond a field are refused and not cut down to what fits.
func TestEncodeHugeFields(t *testing.T) {
	for _, r := range chapter(t) {
		for _, n := range []int{math.MinInt, math.MaxInt, 1 << 32, -1 << 32, 64, 128, 4096, 1 << 20} {
			checkInsn(t, r, api.Insn{Op: r.op, Rd: n})
			checkInsn(t, r, api.Insn{Op: r.op, Rs1: n})
			checkInsn(t, r, api.Insn{Op: r.op, Rs2: n})
			checkInsn(t, r, api.Insn{Op: r.op, Csr: n})
			checkInsn(t, r, api.Insn{Op: r.op, Rd: n, Rs1: n, Rs2: n, Csr: n, Imm: math.MinInt64})
		}
	}
}

// P1.3: every register in every field.
func TestEncodeEveryRegister(t *testing.T) {
	for _, r := range chapter(t) {
		for n := range 32 {
			checkInsn(t, r, api.Insn{Op: r.op, Rd: n})
			checkInsn(t, r, api.Insn{Op: r.op, Rs1: n})
			checkInsn(t, r, api.Insn{Op: r.op, Rs2: n})
			checkInsn(t, r, api.Insn{Op: r.op, Rs1: n, Rs2: 31 - n})
			checkInsn(t, r, api.Insn{Op: r.op, Csr: n * 129})
		}
	}
}

// P1.3, P1.6: every Imm of each shape (of the two widest every 61st), odd ones and the neighbours of the ends too.
func TestEncodeEveryImm(t *testing.T) {
	done := map[string]bool{}
	for _, r := range chapter(t) {
		if done[r.shape] {
			continue
		}
		done[r.shape] = true
		f := forms[r.shape]
		step := int64(1)
		if f.most > 1<<16 {
			step = f.every / 2 * 61
		}
		for imm := f.least - 5*step; imm <= f.most+5*step; imm += step {
			checkInsn(t, r, api.Insn{Op: r.op, Imm: imm})
		}
	}
}

// P1.3: every Csr.
func TestEncodeEveryCsr(t *testing.T) {
	for _, r := range chapter(t) {
		if forms[r.shape].csr {
			for csr := -3; csr < 4100; csr++ {
				checkInsn(t, r, api.Insn{Op: r.op, Csr: csr})
			}
		}
	}
}

// P1.3: a number that is no operation is refused ahead of whatever else is wrong.
func TestEncodeNoOperation(t *testing.T) {
	for _, op := range noOperations() {
		for _, i := range []api.Insn{{Op: op}, {Op: op, Rd: 32}, {Op: op, Rs1: -1, Rs2: 40, Csr: 5000, Imm: math.MaxInt64}} {
			word, err := insn.Encode(i)
			checkFault(t, fmt.Sprintf("Encode(%+v)", i), err, 0, api.ErrInsnOp)
			if word != 0 || insn.Reads(i) != nil || insn.Writes(i) != 0 {
				t.Errorf("%+v: word %08X, Reads %v, Writes %d", i, word, insn.Reads(i), insn.Writes(i))
			}
		}
	}
}

func noOperations() []int {
	return []int{0, -1, 77, 78, 128, 256 + 1, 1 << 32, 1<<32 + 1, math.MinInt, math.MaxInt}
}

// DOC.md, Memory: every refusal is a fault of its own.
func TestFaultsAreNew(t *testing.T) {
	ask := []func() error{
		func() error { _, err := insn.Decode(0); return err },
		func() error { _, err := insn.Encode(api.Insn{}); return err },
		func() error { _, err := insn.Encode(api.Insn{Op: api.OpADD, Rd: 32}); return err },
		func() error { _, err := insn.Encode(api.Insn{Op: api.OpADD, Imm: 1}); return err },
		func() error { _, err := insn.Reg("q"); return err },
	}
	for k, f := range ask {
		first, ok := f().(*api.Fault)
		if !ok || first == nil {
			t.Fatalf("%d: no fault", k)
		}
		was := *first
		*first = api.Fault{}
		if second, ok := f().(*api.Fault); !ok || second == first || *second != was {
			t.Errorf("%d: the second fault is %v", k, second)
		}
	}
}
