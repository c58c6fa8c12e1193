package insn_test

import (
	"fmt"
	"testing"

	"hartix/api"
	"hartix/insn"
)

// The rows of the chapter's section Examples that give something.
func TestExamplesTaken(t *testing.T) {
	for _, c := range []struct {
		word uint32
		i    api.Insn
	}{
		{0x00A00513, api.Insn{Op: api.OpADDI, Rd: 10, Imm: 10}},
		{0xFE209EE3, api.Insn{Op: api.OpBNE, Rs1: 1, Rs2: 2, Imm: -4}},
		{0x0000006F, api.Insn{Op: api.OpJAL}},
		{0xFFDFF06F, api.Insn{Op: api.OpJAL, Imm: -4}},
		{0x800002B7, api.Insn{Op: api.OpLUI, Rd: 5, Imm: -2147483648}},
		{0x43F5D593, api.Insn{Op: api.OpSRAI, Rd: 11, Rs1: 11, Imm: 63}},
		{0xC0102573, api.Insn{Op: api.OpCSRRS, Rd: 10, Csr: 0xC01}},
		{0x00000073, api.Insn{Op: api.OpECALL}},
		{0x00113423, api.Insn{Op: api.OpSD, Rs1: 2, Rs2: 1, Imm: 8}},
	} {
		if i, err := insn.Decode(c.word); i != c.i || err != nil {
			t.Errorf("Decode(%08X) = %+v, %v; not %+v", c.word, i, err, c.i)
		}
		if word, err := insn.Encode(c.i); word != c.word || err != nil {
			t.Errorf("Encode(%+v) = %08X, %v; not %08X", c.i, word, err, c.word)
		}
	}
}

// The rows that refuse.
func TestExamplesRefused(t *testing.T) {
	for _, word := range []uint32{0x02A5959B, 0, 0xFFFFFFFF, 0x00008082, 0x00000173} {
		i, err := insn.Decode(word)
		checkFault(t, fmt.Sprintf("Decode(%08X)", word), err, 0, api.ErrInsnWord)
		if i != (api.Insn{}) {
			t.Errorf("Decode(%08X) gives %+v beside its refusal", word, i)
		}
	}
	for _, c := range []struct {
		i      api.Insn
		at     int
		reason api.Errno
	}{
		{api.Insn{Op: api.OpBEQ, Imm: 3}, 4, api.ErrInsnImm},
		{api.Insn{Op: api.OpADD, Imm: 1}, 4, api.ErrInsnImm},
		{api.Insn{Op: api.OpADD, Rd: 32}, 1, api.ErrInsnReg},
		{api.Insn{Op: 77}, 0, api.ErrInsnOp},
	} {
		word, err := insn.Encode(c.i)
		checkFault(t, fmt.Sprintf("Encode(%+v)", c.i), err, c.at, c.reason)
		if word != 0 {
			t.Errorf("Encode(%+v) gives %08X beside its refusal", c.i, word)
		}
	}
}

// The row of the registers' names.
func TestExamplesReg(t *testing.T) {
	for _, c := range []struct {
		name string
		r    int
		err  bool
	}{{"a0", 10, false}, {"x10", 10, false}, {"fp", 8, false}, {"x08", 0, true}, {"A0", 0, true}} {
		r, err := insn.Reg(c.name)
		if r != c.r || (err != nil) != c.err {
			t.Errorf("Reg(%q) = %d, %v", c.name, r, err)
		}
		if c.err {
			checkFault(t, c.name, err, 0, api.ErrInsnName)
		}
	}
}
