package elf_test

import (
	"bytes"
	stdelf "debug/elf"
	"io"
	"math"
	"testing"

	"hartix/api"
	"hartix/elf"
)

// P7.1: the file of a program with two segments, number by number, as the chapter's two tables tell it.
func TestEveryByteOfAFile(t *testing.T) {
	e := api.Elf{Entry: 0x01020304, Segs: []api.Seg{
		{Va: 0x01020000, Flags: api.SegX, Data: []byte{0xAA, 0xBB, 0xCC}, Mem: 0x1000},
		{Va: 0x21222000, Flags: api.SegR | api.SegW, Mem: 0x00112233},
		{Va: 0x3F000000, Flags: 7, Data: []byte{0xDD}, Mem: 0x01000000},
	}}
	want := []byte{
		0x7F, 0x45, 0x4C, 0x46, 2, 1, 1, 0, 0, 0, 0, 0, 0, 0, 0, 0,
		2, 0, 243, 0, 1, 0, 0, 0,
		4, 3, 2, 1, 0, 0, 0, 0,
		64, 0, 0, 0, 0, 0, 0, 0,
		0, 0, 0, 0, 0, 0, 0, 0,
		0, 0, 0, 0, 64, 0, 56, 0, 3, 0, 0, 0, 0, 0, 0, 0,

		1, 0, 0, 0, 1, 0, 0, 0,
		232, 0, 0, 0, 0, 0, 0, 0,
		0, 0, 2, 1, 0, 0, 0, 0,
		0, 0, 2, 1, 0, 0, 0, 0,
		3, 0, 0, 0, 0, 0, 0, 0,
		0, 0x10, 0, 0, 0, 0, 0, 0,
		0, 0x10, 0, 0, 0, 0, 0, 0,

		1, 0, 0, 0, 6, 0, 0, 0,
		235, 0, 0, 0, 0, 0, 0, 0,
		0, 0x20, 0x22, 0x21, 0, 0, 0, 0,
		0, 0x20, 0x22, 0x21, 0, 0, 0, 0,
		0, 0, 0, 0, 0, 0, 0, 0,
		0x33, 0x22, 0x11, 0, 0, 0, 0, 0,
		0, 0x10, 0, 0, 0, 0, 0, 0,

		1, 0, 0, 0, 7, 0, 0, 0,
		235, 0, 0, 0, 0, 0, 0, 0,
		0, 0, 0, 0x3F, 0, 0, 0, 0,
		0, 0, 0, 0x3F, 0, 0, 0, 0,
		1, 0, 0, 0, 0, 0, 0, 0,
		0, 0, 0, 1, 0, 0, 0, 0,
		0, 0x10, 0, 0, 0, 0, 0, 0,

		0xAA, 0xBB, 0xCC, 0xDD,
	}
	got, err := elf.Write(e)
	if err != nil || !bytes.Equal(got, want) {
		t.Errorf("% x, %v", got, err)
	}
	checkWrite(t, e)
}

// Another reader of the format finds the program in the file.
func TestAnotherReaderFindsTheProgram(t *testing.T) {
	for _, e := range []api.Elf{small(), three(), rising(1), rising(8)} {
		b, err := elf.Write(e)
		if err != nil {
			t.Fatal(err)
		}
		f, err := stdelf.NewFile(bytes.NewReader(b))
		if err != nil {
			t.Fatal(err)
		}
		if f.Entry != e.Entry || f.Type != stdelf.ET_EXEC || f.Machine != stdelf.EM_RISCV || len(f.Sections) != 0 || len(f.Progs) != len(e.Segs) {
			t.Errorf("%+v", f.FileHeader)
		}
		for k, p := range f.Progs {
			s := e.Segs[k]
			data, err := io.ReadAll(p.Open())
			if err != nil || !bytes.Equal(data, s.Data) {
				t.Errorf("segment %d: % x, %v", k, data, err)
			}
			if p.Type != stdelf.PT_LOAD || uint32(p.Flags) != s.Flags || p.Vaddr != s.Va || p.Paddr != s.Va || p.Memsz != s.Mem || p.Align != 4096 {
				t.Errorf("segment %d: %+v", k, p.ProgHeader)
			}
		}
	}
}

// refusedSo turns a copy of three and asks for the refusal; the chapter's second reading must say the same.
func refusedSo(t *testing.T, what string, want reason, turn func(e *api.Elf)) {
	t.Helper()
	e := three()
	turn(&e)
	if _, got := checkWrite(t, e); got != want {
		t.Errorf("%s: %+v, not %+v", what, got, want)
	}
}

func TestHowManySegments(t *testing.T) {
	for n := range 12 {
		want := reason{}
		if n < 1 || n > 8 {
			want = reason{0, api.ErrElfSegs}
		}
		if _, got := checkWrite(t, rising(n)); got != want {
			t.Errorf("%d segments: %+v", n, got)
		}
	}
	for _, e := range []api.Elf{{}, {Segs: []api.Seg{}}, {Segs: make([]api.Seg, 100000)}} {
		if _, got := checkWrite(t, e); got != (reason{0, api.ErrElfSegs}) {
			t.Errorf("%d segments: %+v", len(e.Segs), got)
		}
	}
}

func TestVaOfASegment(t *testing.T) {
	for _, va := range []uint64{1, 2, 0x800, 0x3001, 0x3fff, 0x3800, 0x2fff} {
		refusedSo(t, "a Va within a page", reason{2, api.ErrElfSeg}, func(e *api.Elf) { e.Segs[1].Va = va })
	}
	for k := range 64 {
		e := three()
		e.Segs[2].Va = 1 << k
		checkWrite(t, e)
		e.Segs[2].Va = 0x5000 ^ 1<<k
		checkWrite(t, e)
	}
}

func TestFlagsOfASegment(t *testing.T) {
	for flags := range uint32(20) {
		want := reason{3, api.ErrElfSeg}
		switch flags {
		case 1, 4, 5, 6, 7:
			want = reason{}
		}
		refusedSo(t, "flags", want, func(e *api.Elf) { e.Segs[2].Flags = flags })
	}
	for k := 3; k < 32; k++ {
		refusedSo(t, "flags above 7", reason{2, api.ErrElfSeg}, func(e *api.Elf) { e.Segs[1].Flags |= 1 << k })
	}
}

func TestMemOfASegment(t *testing.T) {
	for _, c := range []struct {
		bytes int
		mem   uint64
		want  reason
	}{
		{0, 0, reason{2, api.ErrElfSeg}},
		{0, 1, reason{}},
		{1, 0, reason{2, api.ErrElfSeg}},
		{1, 1, reason{}},
		{3, 2, reason{2, api.ErrElfSeg}},
		{3, 3, reason{}},
		{3, 4, reason{}},
		{4096, 4095, reason{2, api.ErrElfSeg}},
		{4096, 4096, reason{}},
	} {
		refusedSo(t, "mem", c.want, func(e *api.Elf) {
			e.Segs[1].Data, e.Segs[1].Mem = make([]byte, c.bytes), c.mem
		})
	}
}

func TestEndOfASegment(t *testing.T) {
	wrong := reason{3, api.ErrElfSeg}
	for _, c := range []struct {
		va, mem uint64
		want    reason
	}{
		{0x4000, 1<<30 - 0x4000, reason{}},
		{0x4000, 1<<30 - 0x4000 + 1, wrong},
		{0x4000, 1 << 30, wrong},
		{1<<30 - 4096, 4096, reason{}},
		{1<<30 - 4096, 4097, wrong},
		{1<<30 - 4096, 1, reason{}},
		{1 << 30, 1, wrong},
		{1 << 31, 1, wrong},
		{1 << 63, 1, wrong},
		{1 << 63, 1 << 63, wrong},
		{0x4000, math.MaxUint64, wrong},
		{0x4000, math.MaxUint64 - 0x3fff, wrong},
		{0x4000, math.MaxUint64 - 0x3ffe, wrong},
		{math.MaxUint64 - 4095, 4096, wrong},
		{math.MaxUint64 - 4095, 4097, wrong},
		{math.MaxUint64 - 4095, 1, wrong},
		{math.MaxUint64 - 4095, math.MaxUint64, wrong},
	} {
		refusedSo(t, "end", c.want, func(e *api.Elf) { e.Segs[2].Va, e.Segs[2].Mem = c.va, c.mem })
	}
	e := small()
	e.Segs[0].Mem = 1 << 30
	if _, got := checkWrite(t, e); got != (reason{}) {
		t.Errorf("a segment up to the limit: %+v", got)
	}
	e.Segs[0].Mem++
	if _, got := checkWrite(t, e); got != (reason{1, api.ErrElfSeg}) {
		t.Errorf("a segment beyond the limit: %+v", got)
	}
}

func TestSegmentsRise(t *testing.T) {
	overlap := reason{2, api.ErrElfOverlap}
	for _, c := range []struct {
		va, mem, next uint64
		want          reason
	}{
		{0x1000, 1, 0x2000, reason{}},
		{0x1000, 4095, 0x2000, reason{}},
		{0x1000, 4096, 0x2000, reason{}},
		{0x1000, 4097, 0x2000, overlap},
		{0x1000, 4097, 0x3000, reason{}},
		{0x1000, 4096, 0x1000, overlap},
		{0x1000, 8, 0x1000, overlap},
		{0x1000, 8, 0, overlap},
		{0x1000, 0x2000, 0x3000, reason{}},
		{0x1000, 0x2001, 0x3000, overlap},
	} {
		e := api.Elf{Entry: c.va, Segs: []api.Seg{{Va: c.va, Flags: 5, Mem: c.mem}, {Va: c.next, Flags: 6, Mem: 1}}}
		if _, got := checkWrite(t, e); got != c.want {
			t.Errorf("%+v: %+v", c, got)
		}
	}
	refusedSo(t, "the third behind the first, below the second", reason{3, api.ErrElfOverlap}, func(e *api.Elf) { e.Segs[2].Va, e.Segs[2].Mem = 0x2000, 1 })
	refusedSo(t, "two of one kind", reason{3, api.ErrElfOverlap}, func(e *api.Elf) { e.Segs[2] = e.Segs[1] })
}

func TestEntryOfAProgram(t *testing.T) {
	wrong := reason{0, api.ErrElfEntry}
	for _, c := range []struct {
		entry uint64
		want  reason
	}{
		{0x1000, reason{}}, {0x1002, reason{}}, {0x1006, reason{}}, {0x1004, reason{}},
		{0x1008, wrong}, {0xffe, wrong}, {0x1001, wrong}, {0x1007, wrong}, {0, wrong}, {1, wrong},
		{0x3000, wrong}, {0x4000, wrong}, {0x4100, wrong}, {0x2000, wrong}, {0x1ffe, wrong}, {1 << 30, wrong},
		{1 << 63, wrong}, {math.MaxUint64 - 1, wrong}, {math.MaxUint64, wrong}, {1<<32 | 0x1000, wrong},
	} {
		refusedSo(t, "entry", c.want, func(e *api.Elf) { e.Entry = c.entry })
	}
	for flags := range uint32(8) {
		e := small()
		e.Segs[0].Flags = flags
		checkWrite(t, e)
	}
	// Bytes in memory behind those of the file count too; so does a segment behind one without X.
	e := api.Elf{Entry: 0x5ffe, Segs: []api.Seg{{Flags: 4, Mem: 4096}, {Va: 0x5000, Flags: 1, Data: []byte{1}, Mem: 0xfff}}}
	if _, got := checkWrite(t, e); got != (reason{}) {
		t.Errorf("%+v", got)
	}
	e.Segs[1].Mem = 0xffe
	if _, got := checkWrite(t, e); got != wrong {
		t.Errorf("%+v", got)
	}
}

// withBytes gives a program of n segments whose file has so many bytes.
func withBytes(n, size int) api.Elf {
	e := rising(n)
	rest := size - 64 - 56*n
	for k := range e.Segs {
		s := &e.Segs[k]
		s.Va, s.Mem = uint64(k)<<20, 1<<20
		s.Data = bytes.Repeat([]byte{byte(k + 1)}, rest/n)
	}
	e.Segs[0].Data = append(e.Segs[0].Data, make([]byte, rest%n)...)
	e.Entry = uint64(n-1) << 20
	return e
}

func TestLengthOfAFile(t *testing.T) {
	for n := 1; n <= 8; n++ {
		b, got := checkWrite(t, withBytes(n, api.MaxElf))
		if got != (reason{}) || len(b) != api.MaxElf {
			t.Errorf("%d segments: %d bytes, %+v", n, len(b), got)
		}
		b, got = checkWrite(t, withBytes(n, api.MaxElf+1))
		if got != (reason{0, api.ErrElfLong}) || b != nil {
			t.Errorf("%d segments: %d bytes, %+v", n, len(b), got)
		}
	}
	e := withBytes(8, api.MaxElf)
	for k := range e.Segs {
		e.Segs[k].Data = make([]byte, 1<<20)
	}
	if _, got := checkWrite(t, e); got != (reason{0, api.ErrElfLong}) {
		t.Errorf("%+v", got)
	}
}

// Of several reasons the first holds.
func TestOrderOfWritesRefusals(t *testing.T) {
	long := make([]byte, api.MaxElf+1)
	refusedSo(t, "a segment, overlap, entry, length", reason{2, api.ErrElfSeg}, func(e *api.Elf) {
		e.Entry = 1
		e.Segs[1].Va, e.Segs[1].Data, e.Segs[1].Mem = 1, long, 1<<20
	})
	refusedSo(t, "overlap, entry, length", reason{2, api.ErrElfOverlap}, func(e *api.Elf) {
		e.Entry = 1
		e.Segs[1].Va, e.Segs[1].Data, e.Segs[1].Mem = 0x1000, long, 1<<20
	})
	refusedSo(t, "a segment and the overlap of one ahead of it", reason{2, api.ErrElfOverlap}, func(e *api.Elf) {
		e.Segs[1].Va, e.Segs[2].Flags = 0x1000, 0
	})
	refusedSo(t, "a segment that does not rise either", reason{2, api.ErrElfSeg}, func(e *api.Elf) {
		e.Segs[1].Va, e.Segs[1].Flags = 0x1000, 2
	})
	refusedSo(t, "two segments", reason{1, api.ErrElfSeg}, func(e *api.Elf) { e.Segs[0].Mem, e.Segs[2].Mem = 0, 0 })
	refusedSo(t, "entry, length", reason{0, api.ErrElfEntry}, func(e *api.Elf) {
		e.Entry = 1
		e.Segs[2].Data, e.Segs[2].Mem = long, 1<<20
	})
	e := rising(9)
	e.Entry, e.Segs[0].Flags = 1, 0
	if _, got := checkWrite(t, e); got != (reason{0, api.ErrElfSegs}) {
		t.Errorf("too many segments, one of them wrong: %+v", got)
	}
}
