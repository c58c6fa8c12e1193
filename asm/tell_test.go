package asm_test

import (
	"bytes"
	"encoding/binary"
	"fmt"
	"strings"
	"testing"

	"hartix/api"
	"hartix/asm"
	"hartix/insn"
)

// wantTell: P6.4, read a second time.
func wantTell(code []byte) string {
	var b strings.Builder
	at := int64(0)
	for ; len(code) >= 4; code, at = code[4:], at+4 {
		b.WriteString(wantLine(binary.LittleEndian.Uint32(code), at) + "\n")
	}
	for _, one := range code {
		fmt.Fprintf(&b, ".byte 0x%02x\n", one)
	}
	return b.String()
}

func wantLine(word uint32, at int64) string {
	i, err := insn.Decode(word)
	name, d, s1, s2 := insn.Name(i.Op), insn.RegName(i.Rd), insn.RegName(i.Rs1), insn.RegName(i.Rs2)
	switch shape := insn.Shape(i.Op); {
	case err != nil || i.Op == api.OpFENCE && word != 0x0ff0000f || i.Op == api.OpFENCEI && word != 0x0000100f:
		return fmt.Sprintf(".word 0x%08x", word)
	case i.Op == api.OpJALR || shape == api.ShapeL:
		return fmt.Sprintf("%s %s, %d(%s)", name, d, i.Imm, s1)
	case shape == api.ShapeR:
		return fmt.Sprintf("%s %s, %s, %s", name, d, s1, s2)
	case shape == api.ShapeI || shape == api.ShapeH || shape == api.ShapeW:
		return fmt.Sprintf("%s %s, %s, %d", name, d, s1, i.Imm)
	case shape == api.ShapeS:
		return fmt.Sprintf("%s %s, %d(%s)", name, s2, i.Imm, s1)
	case shape == api.ShapeB:
		return fmt.Sprintf("%s %s, %s, %d", name, s1, s2, at+i.Imm)
	case shape == api.ShapeU:
		return fmt.Sprintf("%s %s, %d", name, d, word>>12)
	case shape == api.ShapeJ:
		return fmt.Sprintf("%s %s, %d", name, d, at+i.Imm)
	case shape == api.ShapeV:
		return fmt.Sprintf("%s %s, %s", name, s1, s2)
	case shape == api.ShapeC:
		return fmt.Sprintf("%s %s, %d, %s", name, d, i.Csr, s1)
	case shape == api.ShapeCI:
		return fmt.Sprintf("%s %s, %d, %d", name, d, i.Csr, i.Imm)
	}
	return name
}

// checkTold holds Tell against the chapter's second reading, and what it tells against Assemble (P6.5).
func checkTold(t *testing.T, code []byte) {
	t.Helper()
	kept := bytes.Clone(code)
	text := asm.Tell(code)
	if want := wantTell(kept); text != want {
		t.Fatalf("% x:\n%.1000s\nnot\n%.1000s", kept, text, want)
	}
	if !bytes.Equal(code, kept) {
		t.Fatalf("% x became % x", kept, code)
	}
	if len(text) > api.MaxAsm {
		return
	}
	img, err := asm.Assemble(text)
	if err != nil || !bytes.Equal(img.Code, code) || img.Data != nil || img.Bss != 0 || img.Symbols != nil || img.Entry != 0 {
		t.Fatalf("% x: told as\n%.1000s\nwhich is % x, %v", code, text, img.Code, err)
	}
}

func wordBytes(words ...uint32) []byte {
	var code []byte
	for _, w := range words {
		code = binary.LittleEndian.AppendUint32(code, w)
	}
	return code
}

func TestTellLines(t *testing.T) {
	for _, c := range []struct {
		words []uint32
		want  string
	}{
		{nil, ""},
		{[]uint32{0x00000013}, "addi zero, zero, 0\n"},
		{[]uint32{0xFE209EE3}, "bne ra, sp, -4\n"},
		{[]uint32{0x00000013, 0xFE209EE3, 0xFE209EE3}, "addi zero, zero, 0\nbne ra, sp, 0\nbne ra, sp, 4\n"},
		{[]uint32{0x0000006F, 0xFFDFF06F}, "jal zero, 0\njal zero, 0\n"},
		{[]uint32{0x800002B7, 0x00001297}, "lui t0, 524288\nauipc t0, 1\n"},
		{[]uint32{0x43F5D593, 0x02A5959B}, "srai a1, a1, 63\n.word 0x02a5959b\n"},
		{[]uint32{0x00113423, 0xFF813083}, "sd ra, 8(sp)\nld ra, -8(sp)\n"},
		{[]uint32{0x00008067, 0x000080E7}, "jalr zero, 0(ra)\njalr ra, 0(ra)\n"},
		{[]uint32{0xC0102573, 0xFFF0D573}, "csrrs a0, 3073, zero\ncsrrwi a0, 4095, 1\n"},
		{[]uint32{0x0FF0000F, 0x0000100F, 0x0000000F, 0x0FF0100F, 0x0FF0008F, 0x0FF0800F, 0x8330000F}, "fence\nfence.i\n.word 0x0000000f\n.word 0x0ff0100f\n.word 0x0ff0008f\n.word 0x0ff0800f\n.word 0x8330000f\n"},
		{[]uint32{0x00000073, 0x00100073, 0x10200073, 0x30200073, 0x10500073}, "ecall\nebreak\nsret\nmret\nwfi\n"},
		{[]uint32{0x12000073, 0x12B50073}, "sfence.vma zero, zero\nsfence.vma a0, a1\n"},
		{[]uint32{0, 0xFFFFFFFF, 0x0000000A}, ".word 0x00000000\n.word 0xffffffff\n.word 0x0000000a\n"},
		{[]uint32{0x40B50533, 0x02B55533}, "sub a0, a0, a1\ndivu a0, a0, a1\n"},
	} {
		code := wordBytes(c.words...)
		checkTold(t, code)
		if got := asm.Tell(code); got != c.want {
			t.Errorf("%08x: %q", c.words, got)
		}
	}
}

func TestTellBytesLeft(t *testing.T) {
	for _, c := range []struct {
		code []byte
		want string
	}{
		{[]byte{}, ""}, {[]byte{0}, ".byte 0x00\n"}, {[]byte{0xAB, 0x0C}, ".byte 0xab\n.byte 0x0c\n"}, {[]byte{1, 2, 255}, ".byte 0x01\n.byte 0x02\n.byte 0xff\n"},
		{[]byte{0x73, 0, 0, 0, 0x73, 0, 0}, "ecall\n.byte 0x73\n.byte 0x00\n.byte 0x00\n"},
	} {
		checkTold(t, c.code)
		if got := asm.Tell(c.code); got != c.want {
			t.Errorf("% x: %q", c.code, got)
		}
	}
}

// Each operation with operands that are empty, full and mixed, and all words that are one bit away.
func TestTellEveryOperation(t *testing.T) {
	var words []uint32
	for op := 1; op < api.Ops; op++ {
		for _, i := range []api.Insn{{Op: op}, {Op: op, Imm: -4096}, {Op: op, Imm: 30}} {
			if op == api.OpFENCE && i.Imm == 30 {
				i.Imm = 255
			}
			if w, err := insn.Encode(i); err == nil {
				words = append(words, w)
				for bit := range 32 {
					words = append(words, w^1<<bit)
				}
			}
		}
	}
	for len(words) > 0 {
		n := min(len(words), 2000)
		checkTold(t, wordBytes(words[:n]...))
		words = words[n:]
	}
}

func TestTellDrawn(t *testing.T) {
	s := scatter(62)
	told := 0
	for range 400 {
		code := make([]byte, s.below(300))
		for k := range code {
			code[k] = byte(s.next() >> 20)
		}
		for k := 0; k+4 <= len(code); k += 4 {
			i := drawnInsn(&s)
			if w, err := insn.Encode(i); err == nil && s.below(10) > 0 {
				binary.LittleEndian.PutUint32(code[k:], w)
				told++
			}
		}
		checkTold(t, code)
	}
	if told < 5000 {
		t.Errorf("%d instructions only", told)
	}
}

// drawnInsn gives an instruction that Encode mostly takes.
func drawnInsn(s *scatter) api.Insn {
	i := api.Insn{Op: 1 + s.below(api.Ops-1)}
	fields := fieldsOf[insn.Shape(i.Op)]
	for _, f := range fields {
		switch f {
		case 'd':
			i.Rd = s.below(32)
		case '1':
			i.Rs1 = s.below(32)
		case '2':
			i.Rs2 = s.below(32)
		case 'c':
			i.Csr = s.below(4096)
		case 'p':
			i.Rs1, i.Imm = s.below(32), int64(s.below(4096)-2048)
		case 'i':
			r := shapeRanges[insn.Shape(i.Op)]
			i.Imm = r[0] + int64(s.next()>>8%uint64(r[1]-r[0]+1))
		}
	}
	switch insn.Shape(i.Op) {
	case api.ShapeB, api.ShapeJ:
		i.Imm &^= 1
	case api.ShapeU:
		i.Imm = int64(int32(i.Imm << 12))
	case api.ShapeF:
		if i.Op == api.OpFENCE {
			i.Imm = 255
		}
	}
	return i
}

// P6.5 at its greatest: MaxSection / 2 bytes of code.
func TestTellMuch(t *testing.T) {
	s := scatter(63)
	for _, n := range []int{api.MaxSection / 2, api.MaxSection/2 - 1, api.MaxSection/2 - 3} {
		code := make([]byte, n)
		for k := 0; k+4 <= len(code); k += 4 {
			w, _ := insn.Encode(drawnInsn(&s))
			binary.LittleEndian.PutUint32(code[k:], w)
		}
		checkTold(t, code)
	}
	// Beyond what Assemble would take Tell goes on.
	code := bytes.Repeat([]byte{0x6F, 0, 0, 0x80}, 100000)
	if got, want := asm.Tell(code), wantTell(code); got != want {
		t.Errorf("%d bytes, not %d", len(got), len(want))
	}
}
