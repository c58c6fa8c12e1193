package insn_test

import (
	"fmt"
	"math"
	"strings"
	"testing"

	"hartix/api"
	"hartix/insn"
)

const secondNames = "zero ra sp gp tp t0 t1 t2 s0 s1 a0 a1 a2 a3 a4 a5 a6 a7 s2 s3 s4 s5 s6 s7 s8 s9 s10 s11 t3 t4 t5 t6"

// P1.1, P1.4, P1.6: the chapter's rows, one by one.
func TestShapesAndNames(t *testing.T) {
	rows := chapter(t)
	if len(rows) != 76 || api.Ops != 77 {
		t.Fatalf("%d rows, %d numbers", len(rows), api.Ops-1)
	}
	for _, r := range rows {
		if s := insn.Shape(r.op); s != forms[r.shape].number {
			t.Errorf("Shape(%d) = %d, not that of %s", r.op, s, r.shape)
		}
		if n := insn.Name(r.op); n != r.name {
			t.Errorf("Name(%d) = %q, not %q", r.op, n, r.name)
		}
		if op, ok := insn.ByName(r.name); op != r.op || !ok {
			t.Errorf("ByName(%q) = %d, %v", r.name, op, ok)
		}
	}
}

// P1.1, P1.4: numbers that are no operation.
func TestNoOperation(t *testing.T) {
	for _, op := range noOperations() {
		if s, n := insn.Shape(op), insn.Name(op); s != 0 || n != "" {
			t.Errorf("%d: Shape %d, Name %q", op, s, n)
		}
	}
}

// P1.4: names are taken letter for letter.
func TestNoOperationName(t *testing.T) {
	names := []string{"", " ", "li", "nop", "fence_i", "fencei", "sfence", "add ", " add", "add\x00", "addx", "ad", "x0", "a0", "\xff", strings.Repeat("add", 1000)}
	for _, r := range chapter(t) {
		names = append(names, strings.ToUpper(r.name), strings.ToUpper(r.name[:1])+r.name[1:], r.name+".", "."+r.name)
	}
	for _, name := range names {
		if op, ok := insn.ByName(name); op != 0 || ok {
			t.Errorf("ByName(%q) = %d, %v", name, op, ok)
		}
	}
}

// P1.4, P1.6: both names of each register, and fp.
func TestRegisters(t *testing.T) {
	seconds := strings.Fields(secondNames)
	for r, second := range seconds {
		if n := insn.RegName(r); n != second {
			t.Errorf("RegName(%d) = %q, not %q", r, n, second)
		}
		for _, name := range []string{second, fmt.Sprintf("x%d", r), insn.RegName(r)} {
			if got, err := insn.Reg(name); got != r || err != nil {
				t.Errorf("Reg(%q) = %d, %v; not %d", name, got, err, r)
			}
		}
	}
	if len(seconds) != 32 {
		t.Errorf("%d second names", len(seconds))
	}
	if r, err := insn.Reg("fp"); r != 8 || err != nil {
		t.Errorf("Reg(fp) = %d, %v", r, err)
	}
}

// P1.4: numbers and names that are no register.
func TestNoRegister(t *testing.T) {
	for _, r := range []int{-1, 32, 33, 256, 1 << 32, math.MinInt, math.MaxInt} {
		if n := insn.RegName(r); n != "" {
			t.Errorf("RegName(%d) = %q", r, n)
		}
	}
	names := []string{
		"", "x", "x32", "x-1", "x+1", "x00", "x08", "x010", "x031", "x1 ", " x1", "X1", "x 1", "x0x1", "x4294967296", "x18446744073709551616",
		"A0", "Zero", "FP", "a8", "s12", "t7", "a00", "a01", "s01", "pc", "f0", "0", "10", "add", "zero\x00", "\xff", "\xd9\xa1", strings.Repeat("x", 1000),
	}
	for _, name := range names {
		r, err := insn.Reg(name)
		checkFault(t, fmt.Sprintf("Reg(%q)", name), err, 0, api.ErrInsnName)
		if r != 0 {
			t.Errorf("Reg(%q) gives %d beside its refusal", name, r)
		}
	}
}
