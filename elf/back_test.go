package elf_test

// P7.3: there and back.

import (
	"bytes"
	stdelf "debug/elf"
	"reflect"
	"testing"

	"hartix/api"
	"hartix/asm"
	"hartix/elf"
)

func thereAndBack(t *testing.T, e api.Elf) {
	t.Helper()
	b, err := elf.Write(e)
	if err != nil {
		t.Fatalf("%s: %v", told(e), err)
	}
	f, err := elf.Read(b)
	if err != nil || !reflect.DeepEqual(f, e) {
		t.Fatalf("%s comes back as %s, %v", told(e), told(f), err)
	}
	c, err := elf.Write(f)
	if err != nil || !bytes.Equal(b, c) {
		t.Fatalf("%s is written twice, and not alike: %v", told(e), err)
	}
}

func TestThereAndBack(t *testing.T) {
	for _, e := range []api.Elf{small(), three(), rising(1), rising(2), rising(8), withBytes(1, api.MaxElf), withBytes(8, api.MaxElf)} {
		thereAndBack(t, e)
	}
}

func TestThereAndBackOfTexts(t *testing.T) {
	for _, text := range []string{
		"_start: ecall",
		"nop\n_start: la a0, s\necall\n.data\ns: .asciz \"hi\"\n.bss\n.zero 10000",
		"li a0, 0x123456789\n.bss\nx: .zero 1",
	} {
		img, err := asm.Assemble(text)
		if err != nil {
			t.Fatal(err)
		}
		thereAndBack(t, asm.Program(img))
	}
}

func TestThereAndBackDrawn(t *testing.T) {
	s := scatter(73)
	for range 4000 {
		thereAndBack(t, drawnProgram(&s))
	}
}

// What Read gives, Write takes, and it comes back.
func TestFilesBackAndThere(t *testing.T) {
	s := scatter(74)
	taken := 0
	for range 8000 {
		b := drawnFile(&s)
		e, err := elf.Read(b)
		if err != nil {
			continue
		}
		taken++
		thereAndBack(t, e)
	}
	if taken < 2000 {
		t.Errorf("%d files were taken", taken)
	}
}

// Bytes that segments share are written twice: that may be too long, and nothing else is wrong.
func TestSharedBytesAreWrittenTwice(t *testing.T) {
	for _, c := range []struct {
		bytes uint64
		want  reason
	}{
		{100000, reason{}},
		{(api.MaxElf - 64 - 112) / 2, reason{}},
		{(api.MaxElf-64-112)/2 + 1, reason{0, api.ErrElfLong}},
		{200000, reason{0, api.ErrElfLong}},
	} {
		b := fileWith(0, []stdelf.Prog64{
			{Type: 1, Flags: 5, Off: 176, Filesz: c.bytes, Memsz: 1 << 20},
			{Type: 1, Flags: 5, Off: 176, Vaddr: 1 << 20, Filesz: c.bytes, Memsz: 1 << 20},
		}, bytes.Repeat([]byte{7}, int(c.bytes)))
		e, why := checkRead(t, b)
		if why != (reason{}) {
			t.Fatalf("%d bytes: %+v", c.bytes, why)
		}
		if _, got := checkWrite(t, e); got != c.want {
			t.Errorf("%d bytes: %+v", c.bytes, got)
		}
		if c.want == (reason{}) {
			thereAndBack(t, e)
		}
		if n, err := elf.Pages(e); n != 512 || err != nil {
			t.Errorf("%d bytes: %d, %v", c.bytes, n, err)
		}
	}
}
