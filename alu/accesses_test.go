package alu_test

import (
	"fmt"
	"testing"

	"hartix/alu"
	"hartix/api"
)

type moves struct {
	op, bytes int
	signed    bool
}

func loads() []moves {
	return []moves{
		{api.OpLB, 1, true}, {api.OpLH, 2, true}, {api.OpLW, 4, true}, {api.OpLD, 8, false},
		{api.OpLBU, 1, false}, {api.OpLHU, 2, false}, {api.OpLWU, 4, false},
	}
}

func stores() []moves {
	return []moves{{api.OpSB, 1, false}, {api.OpSH, 2, false}, {api.OpSW, 4, false}, {api.OpSD, 8, false}}
}

func opsOf(rows ...moves) []int {
	var ops []int
	for _, m := range rows {
		ops = append(ops, m.op)
	}
	return ops
}

func (m moves) left(word uint64) uint64 {
	n := asIs.take(word)
	if m.signed {
		return wordOf(signedNumber(n, 8*m.bytes))
	}
	return wordOf(modulo(n, 8*m.bytes))
}

// turningWords: all words, and those at which a byte, half or word of any length turns its sign.
func turningWords() []uint64 {
	all := words()
	for bit := range 64 {
		all = append(all, 1<<bit, 1<<bit-1, minus(1<<bit), minus(1<<bit)-1, 0xA5A5A5A5A5A5A5A5^1<<bit, 0x5A5A5A5A5A5A5A5A^1<<bit)
	}
	scatter(2000, func(a, b uint64) { all = append(all, a, b) })
	return all
}

// P2.5: how many bytes each moves; 0 of every other.
func TestBytes(t *testing.T) {
	both := append(loads(), stores()...)
	for _, m := range both {
		if n := alu.Bytes(m.op); n != m.bytes {
			t.Errorf("Bytes(%d) = %d, not %d", m.op, n, m.bytes)
		}
	}
	for _, op := range numbersBut(opsOf(both...)...) {
		if n := alu.Bytes(op); n != 0 {
			t.Errorf("Bytes(%d) = %d", op, n)
		}
	}
}

// P2.5: what loads make of bytes.
func TestExtend(t *testing.T) {
	for _, m := range loads() {
		for _, raw := range turningWords() {
			if v, err := alu.Extend(m.op, raw); v != m.left(raw) || err != nil {
				t.Fatalf("Extend(%d, %x) = %x, %v; not %x", m.op, raw, v, err, m.left(raw))
			}
		}
	}
}

// P2.5: what stores keep of a register.
func TestKeep(t *testing.T) {
	for _, m := range stores() {
		for _, v := range turningWords() {
			if kept, err := alu.Keep(m.op, v); kept != m.left(v) || err != nil {
				t.Fatalf("Keep(%d, %x) = %x, %v; not %x", m.op, v, kept, err, m.left(v))
			}
		}
	}
}

// P2.5: no store is extended, no load is kept, and nothing else is either.
func TestExtendAndKeepRefuse(t *testing.T) {
	for _, c := range []struct {
		name string
		ask  func(op int, v uint64) (uint64, error)
		not  []int
	}{
		{"Extend", alu.Extend, numbersBut(opsOf(loads()...)...)},
		{"Keep", alu.Keep, numbersBut(opsOf(stores()...)...)},
	} {
		for _, op := range c.not {
			v, err := c.ask(op, 0x1FF)
			checkFault(t, fmt.Sprintf("%s(%d, 1ff)", c.name, op), err, api.ErrAluOp)
			if v != 0 {
				t.Errorf("%s(%d, 1ff) gives %x beside its refusal", c.name, op, v)
			}
		}
	}
}

// P2.8: a register that is stored and loaded, by all pairs of as many bytes, is as if it had been extended at once.
func TestStoredAndLoaded(t *testing.T) {
	for _, s := range stores() {
		for _, l := range loads() {
			if s.bytes != l.bytes {
				continue
			}
			for _, v := range turningWords() {
				kept, err := alu.Keep(s.op, v)
				if err != nil {
					t.Fatal(err)
				}
				back, err1 := alu.Extend(l.op, kept)
				want, err2 := alu.Extend(l.op, v)
				if back != want || err1 != nil || err2 != nil {
					t.Fatalf("%x by %d and %d: %x, not %x; %v, %v", v, s.op, l.op, back, want, err1, err2)
				}
			}
		}
	}
}
