package asm_test

// The examples of the chapter, as they stand there.

import (
	"bytes"
	"reflect"
	"testing"

	"hartix/api"
	"hartix/asm"
)

func TestExampleExit(t *testing.T) {
	img := laid(t, "_start: li a7, 2\nli a0, 0\necall")
	want := api.Image{
		Code:    []byte{0x93, 0x08, 0x20, 0x00, 0x13, 0x05, 0x00, 0x00, 0x73, 0x00, 0x00, 0x00},
		DataAt:  4096,
		BssAt:   4096,
		Symbols: []api.Symbol{{Name: "_start", Value: 0}},
	}
	if !reflect.DeepEqual(img, want) {
		t.Errorf("%+v", img)
	}
}

func TestExampleBranches(t *testing.T) {
	img := laid(t, "a: beq a0, zero, b\nj a\nb: ret")
	if !bytes.Equal(img.Code, []byte{0x63, 0x04, 0x05, 0x00, 0x6F, 0xF0, 0xDF, 0xFF, 0x67, 0x80, 0x00, 0x00}) {
		t.Errorf("% x", img.Code)
	}
}

func TestExampleAddress(t *testing.T) {
	img := laid(t, "la a0, s\n.data\ns: .asciz \"hi\"")
	if !bytes.Equal(img.Code, []byte{0x17, 0x15, 0x00, 0x00, 0x13, 0x05, 0x05, 0x00}) || !bytes.Equal(img.Data, []byte{0x68, 0x69, 0x00}) || img.DataAt != 4096 {
		t.Errorf("%+v", img)
	}
}

func TestExampleLoads(t *testing.T) {
	list := asm.Load(5000000000, 10)
	most := []int{api.OpLUI, api.OpADDIW, api.OpSLLI, api.OpADDI}
	for _, i := range list {
		for len(most) > 0 && most[0] != i.Op {
			most = most[1:]
		}
	}
	if len(list) == 0 || len(list) > 4 || len(most) == 0 {
		t.Errorf("5000000000: %+v", list)
	}
	for _, c := range []struct {
		value uint64
		want  []api.Insn
	}{
		{1 << 63, []api.Insn{{Op: api.OpADDI, Rd: 5, Imm: -1}, {Op: api.OpSLLI, Rd: 5, Rs1: 5, Imm: 63}}},
		{4096, []api.Insn{{Op: api.OpLUI, Rd: 5, Imm: 4096}}},
	} {
		if got := asm.Load(c.value, 5); !reflect.DeepEqual(got, c.want) {
			t.Errorf("%x: %+v", c.value, got)
		}
	}
}

func TestExampleRefusals(t *testing.T) {
	for _, c := range []struct {
		text   string
		at     int
		reason api.Errno
	}{
		{"addi a0, a0, 2048", 1, api.ErrAsmRange},
		{"foo a0", 1, api.ErrAsmName},
		{"mv a0", 1, api.ErrAsmForm},
		{"mv a0, q9", 1, api.ErrAsmReg},
		{"j b", 1, api.ErrAsmUnknown},
		{"a:a:", 1, api.ErrAsmSymbol},
		{"li a0, b", 1, api.ErrAsmConstant},
		{".data\nnop", 2, api.ErrAsmSection},
	} {
		checkRefused(t, c.text, c.at, c.reason)
	}
}

func TestExampleTold(t *testing.T) {
	if s := asm.Tell([]byte{0x93, 0x08, 0x20, 0x00, 0x73}); s != "addi a7, zero, 2\n.byte 0x73\n" {
		t.Errorf("%q", s)
	}
	if s := asm.Tell([]byte{0xFF, 0xFF, 0xFF, 0xFF}); s != ".word 0xffffffff\n" {
		t.Errorf("%q", s)
	}
}
