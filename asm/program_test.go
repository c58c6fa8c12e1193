package asm_test

import (
	"bytes"
	"math"
	"reflect"
	"testing"

	"hartix/api"
	"hartix/asm"
)

// P6.2: what the program of an image is.
func TestProgram(t *testing.T) {
	codeSeg := api.Seg{Flags: api.SegX | api.SegR, Data: []byte{1, 2, 3, 4, 5}, Mem: 5}
	code := codeSeg.Data
	for _, c := range []struct {
		img  api.Image
		want api.Elf
	}{
		{api.Image{}, api.Elf{}},
		{api.Image{Entry: 77, Symbols: []api.Symbol{{Name: "a"}}}, api.Elf{Entry: 77}},
		{api.Image{Code: code, DataAt: 4096, BssAt: 4096, Entry: 4}, api.Elf{Entry: 4, Segs: []api.Seg{codeSeg}}},
		{api.Image{Code: code, Data: []byte{9}, DataAt: 4096, BssAt: 4112, Bss: 8}, api.Elf{Segs: []api.Seg{codeSeg, {Va: 4096, Flags: api.SegW | api.SegR, Data: []byte{9}, Mem: 24}}}},
		{api.Image{Code: []byte{}, Data: []byte{}, DataAt: 0, BssAt: 0, Bss: 1}, api.Elf{Segs: []api.Seg{{Flags: api.SegW | api.SegR, Mem: 1}}}},
		{api.Image{Data: []byte{9}, DataAt: 0, BssAt: 16}, api.Elf{Segs: []api.Seg{{Flags: 6, Data: []byte{9}, Mem: 16}}}},
		// Images that Assemble does not tell.
		{api.Image{Data: []byte{9}}, api.Elf{}},
		{api.Image{Data: []byte{9}, DataAt: 5, BssAt: 5}, api.Elf{}},
		{api.Image{Data: []byte{9}, DataAt: 5, BssAt: 4}, api.Elf{Segs: []api.Seg{{Va: 5, Flags: 6, Data: []byte{9}, Mem: math.MaxUint64}}}},
		{api.Image{DataAt: 8, BssAt: math.MaxUint64, Bss: 10}, api.Elf{Segs: []api.Seg{{Va: 8, Flags: 6, Mem: 1}}}},
		{api.Image{DataAt: 8, BssAt: math.MaxUint64, Bss: 9}, api.Elf{}},
		{api.Image{Code: code, DataAt: math.MaxUint64, Entry: math.MaxUint64}, api.Elf{Entry: math.MaxUint64, Segs: []api.Seg{codeSeg, {Va: math.MaxUint64, Flags: 6, Mem: 1}}}},
	} {
		if got := asm.Program(c.img); !reflect.DeepEqual(got, c.want) {
			t.Errorf("%+v: %+v, not %+v", c.img, got, c.want)
		}
	}
}

func TestProgramsOfTexts(t *testing.T) {
	for _, c := range []struct {
		text string
		want api.Elf
	}{
		{"", api.Elf{}},
		{"nop\n_start: ret", api.Elf{Entry: 4, Segs: []api.Seg{{Flags: 5, Data: []byte{0x13, 0, 0, 0, 0x67, 0x80, 0, 0}, Mem: 8}}}},
		{".data\n.byte 7", api.Elf{Segs: []api.Seg{{Flags: 6, Data: []byte{7}, Mem: 16}}}},
		{".bss\n.zero 3", api.Elf{Segs: []api.Seg{{Flags: 6, Mem: 3}}}},
		{".byte 1\n.data\n.byte 7\n.bss\n.zero 3", api.Elf{Segs: []api.Seg{{Flags: 5, Data: []byte{1}, Mem: 1}, {Va: 4096, Flags: 6, Data: []byte{7}, Mem: 19}}}},
	} {
		if got := asm.Program(laid(t, c.text)); !reflect.DeepEqual(got, c.want) {
			t.Errorf("%q: %+v", c.text, got)
		}
	}
}

// DOC.md, Memory: what is handed in is neither changed nor kept.
func TestProgramIsNew(t *testing.T) {
	room := bytes.Repeat([]byte{0xAA}, 64)
	img := api.Image{Code: room[:8], Data: room[16:20], DataAt: 4096, BssAt: 4112, Symbols: []api.Symbol{{Name: "a"}}}
	e := asm.Program(img)
	for _, seg := range e.Segs {
		for k := range seg.Data[:cap(seg.Data)] {
			seg.Data[:cap(seg.Data)][k] = 0x55
		}
	}
	if !bytes.Equal(room, bytes.Repeat([]byte{0xAA}, 64)) {
		t.Error("the image is reached through its program")
	}
	e = asm.Program(img)
	img.Code[0], img.Data[0] = 1, 1
	if e.Segs[0].Data[0] != 0xAA || e.Segs[1].Data[0] != 0xAA {
		t.Error("the program hangs on its image")
	}
	f := asm.Program(img)
	f.Segs[0] = api.Seg{}
	f.Segs[1].Data[0] = 9
	if g := asm.Program(img); g.Segs[0].Mem != 8 || g.Segs[1].Data[0] != 1 {
		t.Error("two programs share memory")
	}
}
