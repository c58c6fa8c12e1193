package insn_test

import (
	"fmt"
	"testing"

	"hartix/api"
	"hartix/insn"
)

// checkWord holds Decode, and Encode of what it gives (P1.6), against the chapter's tables.
func checkWord(t *testing.T, rows []row, frees []uint32, word uint32) {
	t.Helper()
	var of []row
	for k, r := range rows {
		if word&^frees[k] == r.fixed {
			of = append(of, r)
		}
	}
	got, err := insn.Decode(word)
	switch len(of) {
	case 0:
		checkFault(t, fmt.Sprintf("Decode(%08X)", word), err, 0, api.ErrInsnWord)
		if got != (api.Insn{}) {
			t.Errorf("Decode(%08X) gives %+v beside its refusal", word, got)
		}
	case 1:
		if want := of[0].insnOf(word); got != want || err != nil {
			t.Errorf("Decode(%08X) = %+v, %v; not %+v", word, got, err, want)
		}
		if back, err := insn.Encode(got); back != word || err != nil {
			t.Errorf("Encode(Decode(%08X)) = %08X, %v", word, back, err)
		}
	default:
		t.Errorf("%08X is a word of %q and of %q", word, of[0].name, of[1].name)
	}
}

func freesOf(rows []row) []uint32 {
	frees := make([]uint32, len(rows))
	for k, r := range rows {
		frees[k] = forms[r.shape].free()
	}
	return frees
}

// P1.2: every opcode with every funct3 and funct7, over fields that are empty, full, mixed, and those of the fixed words.
func TestDecodeEveryOperation(t *testing.T) {
	rows := chapter(t)
	frees := freesOf(rows)
	fills := [][3]uint32{{0, 0, 0}, {31, 31, 31}, {0, 0, 1}, {0, 0, 2}, {0, 0, 5}, {1, 0, 0}, {0, 1, 0}, {10, 21, 12}, {16, 0, 16}}
	for opcode := range uint32(128) {
		for funct3 := range uint32(8) {
			for funct7 := range uint32(128) {
				for _, f := range fills {
					checkWord(t, rows, frees, opcode|f[0]<<7|funct3<<12|f[1]<<15|f[2]<<20|funct7<<25)
				}
			}
			if t.Failed() {
				t.FailNow()
			}
		}
	}
}

// P1.2: a word of each operation, and all words that are one bit away from it.
func TestDecodeOneBitAway(t *testing.T) {
	rows := chapter(t)
	frees := freesOf(rows)
	for k, r := range rows {
		for _, operands := range []uint32{0, 0xFFFFFFFF, 0x5A5A5A5A, 0xC3A5963C} {
			word := r.fixed | operands&frees[k]
			checkWord(t, rows, frees, word)
			for bit := range 32 {
				checkWord(t, rows, frees, word^1<<bit)
			}
		}
	}
}

// P1.2, P1.6: words all over the range, always the same ones.
func TestDecodeScattered(t *testing.T) {
	rows := chapter(t)
	frees := freesOf(rows)
	word := uint32(1)
	for range 300000 {
		word = word*1664525 + 1013904223
		checkWord(t, rows, frees, word)
		checkWord(t, rows, frees, word>>16|word<<16|3)
		if t.Failed() {
			t.FailNow()
		}
	}
}

// P1.2: the lowest two bits are both 1, or it is no word.
func TestDecodeShortWords(t *testing.T) {
	for low := range uint32(3) {
		for high := range uint32(1 << 16) {
			word := high<<16 | high&^3 | low
			if _, err := insn.Decode(word); err == nil {
				t.Fatalf("Decode(%08X) takes it", word)
			}
		}
	}
}
