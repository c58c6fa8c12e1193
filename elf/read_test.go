package elf_test

import (
	"bytes"
	stdelf "debug/elf"
	"encoding/binary"
	"math"
	"slices"
	"testing"

	"hartix/api"
)

// put lays a number down in a copy of a file.
func put(b []byte, at, n int, v uint64) []byte {
	c := bytes.Clone(b)
	var wide [8]byte
	binary.LittleEndian.PutUint64(wide[:], v)
	copy(c[at:at+n], wide[:n])
	return c
}

func fileOf(e api.Elf) []byte {
	b, why := wantWrite(e)
	if why != (reason{}) {
		panic(told(e))
	}
	return b
}

func readSo(t *testing.T, what string, b []byte, want reason) {
	t.Helper()
	if _, got := checkRead(t, b); got != want {
		t.Errorf("%s: %+v, not %+v", what, got, want)
	}
}

// P7.2.
func TestReadPrograms(t *testing.T) {
	for _, e := range []api.Elf{small(), three(), rising(1), rising(8), withBytes(3, api.MaxElf)} {
		readSo(t, told(e), fileOf(e), reason{})
	}
}

func TestReadLengths(t *testing.T) {
	for n := range 64 {
		readSo(t, "all zeros", make([]byte, n), reason{n, api.ErrElfShort})
		readSo(t, "a header cut off", fileOf(small())[:n], reason{n, api.ErrElfShort})
	}
	readSo(t, "nil", nil, reason{0, api.ErrElfShort})
	readSo(t, "64 zeros", make([]byte, 64), reason{0, api.ErrElfMagic})
	full := fileOf(withBytes(1, api.MaxElf))
	readSo(t, "MaxElf bytes", full, reason{})
	readSo(t, "one more", append(bytes.Clone(full), 0), reason{api.MaxElf, api.ErrElfLong})
	readSo(t, "many zeros", make([]byte, api.MaxElf+1), reason{api.MaxElf, api.ErrElfLong})
	readSo(t, "many more zeros", make([]byte, 1<<22), reason{api.MaxElf, api.ErrElfLong})
	readSo(t, "MaxElf zeros", make([]byte, api.MaxElf), reason{0, api.ErrElfMagic})
	for _, e := range []api.Elf{small(), three()} {
		b := fileOf(e)
		for n := range b {
			checkRead(t, b[:n])
		}
		readSo(t, "bytes behind all", append(bytes.Clone(b), 1, 2, 3), reason{})
	}
}

// The fields of the header that must be as said, each bit of them; two wrong ones: the first holds.
func TestReadHeadersFields(t *testing.T) {
	b := fileOf(three())
	fields := []struct {
		at, n int
		errno api.Errno
	}{
		{0, 4, api.ErrElfMagic}, {4, 1, api.ErrElfMagic}, {5, 1, api.ErrElfMagic}, {6, 1, api.ErrElfMagic},
		{16, 2, api.ErrElfHead}, {18, 2, api.ErrElfHead}, {20, 4, api.ErrElfHead}, {52, 2, api.ErrElfHead}, {54, 2, api.ErrElfHead},
	}
	for k, f := range fields {
		for bit := range 8 * f.n {
			c := bytes.Clone(b)
			c[f.at+bit/8] ^= 1 << (bit % 8)
			readSo(t, "a bit turned", c, reason{f.at, f.errno})
			for _, g := range fields[k+1:] {
				d := bytes.Clone(c)
				d[g.at] ^= 0x10
				readSo(t, "two fields", d, reason{f.at, f.errno})
			}
			// All that comes behind the fields is wrong too.
			c = put(put(put(c, 56, 2, 0), 32, 8, 1<<40), 24, 8, 1)
			readSo(t, "and what is behind them", c, reason{f.at, f.errno})
		}
	}
}

func TestReadLooksNotAt(t *testing.T) {
	for _, e := range []api.Elf{small(), three()} {
		b := fileOf(e)
		var places []int
		for at := 7; at < 16; at++ {
			places = append(places, at)
		}
		for at := 40; at < 52; at++ {
			places = append(places, at)
		}
		for at := 58; at < 64; at++ {
			places = append(places, at)
		}
		for k := range e.Segs {
			for at := range 8 {
				places = append(places, 64+56*k+24+at, 64+56*k+48+at)
			}
		}
		for _, at := range places {
			for _, v := range []byte{1, 0x80, 0xff} {
				c := bytes.Clone(b)
				c[at] = v
				readSo(t, "a byte that is not looked at", c, reason{})
			}
		}
		all := bytes.Clone(b)
		for _, at := range places {
			all[at] = 0xff
		}
		readSo(t, "all bytes that are not looked at", all, reason{})
	}
}

// Every bit of a file, turned.
func TestReadEveryBit(t *testing.T) {
	for _, e := range []api.Elf{small(), three()} {
		b := fileOf(e)
		for bit := range 8 * len(b) {
			c := bytes.Clone(b)
			c[bit/8] ^= 1 << (bit % 8)
			checkRead(t, c)
		}
		for at := range b {
			for _, v := range []byte{0, 1, 2, 0x7f, 0x80, 0xff} {
				c := bytes.Clone(b)
				c[at] = v
				checkRead(t, c)
			}
		}
	}
}

// fileWith lays segments' headers down behind a header, and bytes behind these.
func fileWith(entry uint64, heads []stdelf.Prog64, data []byte) []byte {
	return laid(plainHead(entry, len(heads)), heads, data)
}

func code(va uint64) stdelf.Prog64 {
	return stdelf.Prog64{Type: 1, Flags: 5, Vaddr: va, Memsz: 4096}
}

// other is a header that is let go, whatever the rest of it says.
func other(kind uint32) stdelf.Prog64 {
	return stdelf.Prog64{Type: kind, Flags: math.MaxUint32, Off: math.MaxUint64, Vaddr: math.MaxUint64, Paddr: 7, Filesz: math.MaxUint64, Memsz: math.MaxUint64, Align: 3}
}

func TestReadHowManyHeaders(t *testing.T) {
	for _, n := range []int{0, 1, 2, 8, 9, 63, 64, 65, 66, 255, 256, 1000} {
		heads := make([]stdelf.Prog64, n)
		for k := range heads {
			heads[k] = other(uint32(2 + k))
		}
		want := reason{56, api.ErrElfSegs}
		if n > 0 {
			heads[n-1] = code(0)
			if n <= 64 {
				want = reason{}
			}
		}
		readSo(t, "headers of which one is loaded", fileWith(0, heads, nil), want)
	}
	readSo(t, "65535 headers", put(fileOf(small()), 56, 2, 65535), reason{56, api.ErrElfSegs})
	readSo(t, "65 headers that are not there", put(fileOf(small()), 56, 2, 65), reason{56, api.ErrElfSegs})
	readSo(t, "64 headers that are not there", put(fileOf(small()), 56, 2, 64), reason{32, api.ErrElfShort})
	readSo(t, "no headers, elsewhere", put(put(fileOf(small()), 56, 2, 0), 32, 8, math.MaxUint64), reason{56, api.ErrElfSegs})
}

func TestReadWhereHeadersBegin(t *testing.T) {
	b := fileOf(small())
	size := uint64(len(b))
	short := reason{32, api.ErrElfShort}
	for _, c := range []struct {
		at   uint64
		want reason
	}{
		{64, reason{}},
		{size - 55, short}, {size, short}, {size + 1, short}, {1 << 31, short}, {1 << 32, short}, {1<<32 | 64, short}, {1 << 63, short}, {1<<63 | 64, short},
		{math.MaxUint64, short}, {math.MaxUint64 - 55, short}, {math.MaxUint64 - 54, short}, {math.MaxUint64 - 56, short}, {math.MaxInt64, short},
		{0, reason{56, api.ErrElfSegs}},         // the header's own bytes, of another type
		{size - 56, reason{56, api.ErrElfSegs}}, // the last that lies in the file: its type is of the flags
	} {
		readSo(t, "where the headers begin", put(b, 32, 8, c.at), c.want)
	}
	// Behind the bytes, in their midst, at an odd place.
	head := laid(code(0))
	for at := 64; at < 140; at++ {
		file := append(make([]byte, at), head...)
		copy(file, laid(plainHead(0, 1)))
		file = put(file, 32, 8, uint64(at))
		readSo(t, "a header at another place", file, reason{})
		readSo(t, "cut off", file[:len(file)-1], short)
		readSo(t, "with a fault", put(file, at+40, 8, 0), reason{at, api.ErrElfSeg})
	}
}

func TestReadOtherTypes(t *testing.T) {
	for _, kind := range []uint32{0, 2, 3, 6, 256, 257, 1 << 16, 1<<16 | 1, 1 << 31, 1<<31 | 1, 0x6474e551, 0x70000003, math.MaxUint32} {
		readSo(t, "none is loaded", fileWith(0, []stdelf.Prog64{other(kind)}, nil), reason{56, api.ErrElfSegs})
		e, got := checkRead(t, fileWith(4096, []stdelf.Prog64{other(kind), code(4096), other(kind)}, nil))
		if got != (reason{}) || len(e.Segs) != 1 || e.Segs[0].Va != 4096 {
			t.Errorf("type %#x: %s, %+v", kind, told(e), got)
		}
		readSo(t, "a fault behind it", fileWith(0, []stdelf.Prog64{code(0), other(kind), code(0)}, nil), reason{64 + 112, api.ErrElfOverlap})
	}
}

func TestReadTheNinthSegment(t *testing.T) {
	var heads []stdelf.Prog64
	for k := range 8 {
		heads = append(heads, code(uint64(k)<<12), other(3))
	}
	readSo(t, "eight", fileWith(0, heads, nil), reason{})
	for _, ninth := range []stdelf.Prog64{code(9 << 12), code(1), code(0), {Type: 1}} {
		readSo(t, "nine", fileWith(0, append(slices.Clone(heads), ninth), nil), reason{64 + 56*16, api.ErrElfSegs})
	}
	bad := append(slices.Clone(heads), code(9<<12))
	bad[2].Flags = 0
	readSo(t, "nine, and one ahead is wrong", fileWith(0, bad, nil), reason{64 + 112, api.ErrElfSeg})
}

func TestReadSegmentsFields(t *testing.T) {
	wrong := reason{120, api.ErrElfSeg}
	for _, c := range []struct {
		turn func(p *stdelf.Prog64)
		want reason
	}{
		{func(p *stdelf.Prog64) {}, reason{}},
		{func(p *stdelf.Prog64) { p.Vaddr++ }, wrong},
		{func(p *stdelf.Prog64) { p.Vaddr = 1 << 30 }, wrong},
		{func(p *stdelf.Prog64) { p.Vaddr = 1<<30 - 4096 }, reason{}},
		{func(p *stdelf.Prog64) { p.Vaddr, p.Memsz = 1<<30-4096, 4097 }, wrong},
		{func(p *stdelf.Prog64) { p.Vaddr = 1<<32 | 0x1000 }, wrong},
		{func(p *stdelf.Prog64) { p.Vaddr = math.MaxUint64 - 4095 }, wrong},
		{func(p *stdelf.Prog64) { p.Flags = 0 }, wrong},
		{func(p *stdelf.Prog64) { p.Flags = 2 }, wrong},
		{func(p *stdelf.Prog64) { p.Flags = 3 }, wrong},
		{func(p *stdelf.Prog64) { p.Flags = 8 }, wrong},
		{func(p *stdelf.Prog64) { p.Flags = 1<<31 | 4 }, wrong},
		{func(p *stdelf.Prog64) { p.Flags = 7 }, reason{}},
		{func(p *stdelf.Prog64) { p.Memsz = 0 }, wrong},
		{func(p *stdelf.Prog64) { p.Memsz, p.Filesz = 0, 0 }, wrong},
		{func(p *stdelf.Prog64) { p.Memsz = 1 }, wrong},
		{func(p *stdelf.Prog64) { p.Memsz = 2 }, reason{}},
		{func(p *stdelf.Prog64) { p.Memsz = math.MaxUint64 }, wrong},
		{func(p *stdelf.Prog64) { p.Filesz = 4097 }, wrong},
		{func(p *stdelf.Prog64) { p.Filesz = math.MaxUint64 }, wrong},
		{func(p *stdelf.Prog64) { p.Memsz, p.Filesz = math.MaxUint64, math.MaxUint64 }, wrong},
		{func(p *stdelf.Prog64) { p.Filesz = 3 }, reason{120, api.ErrElfShort}},
		{func(p *stdelf.Prog64) { p.Off++ }, reason{120, api.ErrElfShort}},
		{func(p *stdelf.Prog64) { p.Off = math.MaxUint64 }, reason{120, api.ErrElfShort}},
		{func(p *stdelf.Prog64) { p.Off = math.MaxUint64 - 1 }, reason{120, api.ErrElfShort}},
		{func(p *stdelf.Prog64) { p.Off = 1<<32 | 64 }, reason{120, api.ErrElfShort}},
		{func(p *stdelf.Prog64) { p.Off = 0 }, reason{}},
		{func(p *stdelf.Prog64) { p.Off, p.Filesz = math.MaxUint64, 0 }, reason{}},
		{func(p *stdelf.Prog64) { p.Off, p.Filesz = 1<<63, 0 }, reason{}},
		{func(p *stdelf.Prog64) { p.Off, p.Vaddr = 1<<20, 0 }, reason{120, api.ErrElfShort}},
		{func(p *stdelf.Prog64) { p.Vaddr = 0 }, reason{120, api.ErrElfOverlap}},
		{func(p *stdelf.Prog64) { p.Vaddr, p.Off, p.Filesz = 0, 1<<20, 0 }, reason{120, api.ErrElfOverlap}},
		{func(p *stdelf.Prog64) { p.Vaddr, p.Flags = 0, 0 }, wrong},
	} {
		second := stdelf.Prog64{Type: 1, Flags: 6, Off: 176, Vaddr: 4096, Filesz: 2, Memsz: 4096}
		c.turn(&second)
		file := fileWith(0, []stdelf.Prog64{code(0), second}, []byte{7, 8})
		readSo(t, "the second segment's header", file, c.want)
		if c.want == (reason{}) {
			c.want = reason{24, api.ErrElfEntry}
		}
		readSo(t, "and a wrong entry", put(file, 24, 8, 1), c.want)
	}
}

// Of several segments that are wrong the first holds, whatever it is refused for.
func TestReadFirstWrongSegment(t *testing.T) {
	wrong := []struct {
		head  stdelf.Prog64
		errno api.Errno
	}{
		{stdelf.Prog64{Type: 1}, api.ErrElfSeg},
		{stdelf.Prog64{Type: 1, Flags: 4, Vaddr: 1 << 20, Off: 1 << 20, Filesz: 1, Memsz: 1}, api.ErrElfShort},
		{stdelf.Prog64{Type: 1, Flags: 4, Memsz: 1}, api.ErrElfOverlap},
	}
	for _, first := range wrong {
		for _, second := range wrong {
			readSo(t, "two wrong segments", fileWith(1, []stdelf.Prog64{code(0), other(2), first.head, second.head}, nil), reason{64 + 112, first.errno})
		}
	}
}

// Bytes that segments share, and that are headers too, are read for each.
func TestReadSharedBytes(t *testing.T) {
	heads := []stdelf.Prog64{
		{Type: 1, Flags: 5, Off: 0, Filesz: 64, Memsz: 64},
		{Type: 1, Flags: 6, Off: 0, Vaddr: 4096, Filesz: 236, Memsz: 4096},
		{Type: 1, Flags: 4, Off: 64, Vaddr: 8192, Filesz: 168, Memsz: 168},
	}
	b := fileWith(0, heads, []byte{1, 2, 3, 4})
	e, got := checkRead(t, b)
	if got != (reason{}) || !bytes.Equal(e.Segs[0].Data, b[:64]) || !bytes.Equal(e.Segs[1].Data, b) || !bytes.Equal(e.Segs[2].Data, b[64:232]) {
		t.Errorf("%s, %+v", told(e), got)
	}
}

func TestReadEntry(t *testing.T) {
	wrong := reason{24, api.ErrElfEntry}
	b := fileOf(three())
	for _, c := range []struct {
		entry uint64
		want  reason
	}{
		{0x1000, reason{}}, {0x1006, reason{}}, {0x1008, wrong}, {0x1001, wrong}, {0xffe, wrong}, {0, wrong}, {0x3000, wrong},
		{0x4000, wrong}, {1<<32 | 0x1000, wrong}, {1<<63 | 0x1000, wrong}, {math.MaxUint64, wrong}, {math.MaxUint64 - 1, wrong},
	} {
		readSo(t, "entry", put(b, 24, 8, c.entry), c.want)
	}
	readSo(t, "no segment, and a wrong entry", fileWith(1, []stdelf.Prog64{other(6)}, nil), reason{56, api.ErrElfSegs})
}

// A segment without bytes has no list of them.
func TestReadWithoutBytes(t *testing.T) {
	e, got := checkRead(t, fileOf(api.Elf{Segs: []api.Seg{{Flags: 1, Data: []byte{}, Mem: 9}}}))
	if got != (reason{}) || e.Segs[0].Data != nil {
		t.Errorf("%s, %+v", told(e), got)
	}
}
