package elf_test

// A second reading of the chapter: sums are whole numbers without end, files are laid and taken apart by the library's structs.

import (
	"bytes"
	stdelf "debug/elf"
	"encoding/binary"
	"math/big"
	"reflect"
	"testing"

	"hartix/api"
	"hartix/elf"
)

// reason is a refusal: the zero one is none.
type reason struct {
	at    int
	errno api.Errno
}

func whole(n uint64) *big.Int { return new(big.Int).SetUint64(n) }

func sum(a, b uint64) *big.Int { return new(big.Int).Add(whole(a), whole(b)) }

func end(s api.Seg) *big.Int { return sum(s.Va, s.Mem) }

// pagesUp tells how many pages n begins.
func pagesUp(n *big.Int) *big.Int {
	q, r := new(big.Int).DivMod(n, big.NewInt(4096), new(big.Int))
	if r.Sign() > 0 {
		q.Add(q, big.NewInt(1))
	}
	return q
}

func wrongSeg(s api.Seg, bytes uint64) bool {
	right := []bool{false, true, false, false, true, true, true, true} // the flags 0 to 7
	switch {
	case s.Va&0xfff != 0:
	case s.Flags > 7 || !right[s.Flags]:
	case s.Mem == 0 || s.Mem < bytes:
	case end(s).Cmp(big.NewInt(1<<30)) > 0:
	default:
		return false
	}
	return true
}

func overlaps(ahead, s api.Seg) bool {
	first := pagesUp(end(ahead))
	first.Mul(first, big.NewInt(4096))
	return whole(s.Va).Cmp(first) < 0
}

func wrongEntry(e api.Elf) bool {
	for _, s := range e.Segs {
		in := whole(e.Entry).Cmp(whole(s.Va)) >= 0 && whole(e.Entry).Cmp(end(s)) < 0
		if in && s.Flags%2 == 1 {
			return e.Entry%2 == 1
		}
	}
	return true
}

func wantForm(e api.Elf) reason {
	if len(e.Segs) == 0 || len(e.Segs) > 8 {
		return reason{0, api.ErrElfSegs}
	}
	for k, s := range e.Segs {
		if wrongSeg(s, uint64(len(s.Data))) {
			return reason{k + 1, api.ErrElfSeg}
		}
		if k > 0 && overlaps(e.Segs[k-1], s) {
			return reason{k + 1, api.ErrElfOverlap}
		}
	}
	if wrongEntry(e) {
		return reason{0, api.ErrElfEntry}
	}
	return reason{}
}

func wantPages(e api.Elf) (int, reason) {
	if r := wantForm(e); r != (reason{}) {
		return 0, r
	}
	n := 0
	for _, s := range e.Segs {
		n += int(pagesUp(whole(s.Mem)).Int64())
	}
	return n, reason{}
}

func laid(parts ...any) []byte {
	var b bytes.Buffer
	for _, p := range parts {
		if err := binary.Write(&b, binary.LittleEndian, p); err != nil {
			panic(err)
		}
	}
	return b.Bytes()
}

// plainHead is the header of a file that is right.
func plainHead(entry uint64, segs int) stdelf.Header64 {
	h := stdelf.Header64{Type: uint16(stdelf.ET_EXEC), Machine: uint16(stdelf.EM_RISCV), Version: 1, Entry: entry, Phoff: 64, Ehsize: 64, Phentsize: 56, Phnum: uint16(segs)}
	copy(h.Ident[:], "\x7fELF\x02\x01\x01")
	return h
}

func wantWrite(e api.Elf) ([]byte, reason) {
	if r := wantForm(e); r != (reason{}) {
		return nil, r
	}
	var heads, data []byte
	for _, s := range e.Segs {
		heads = append(heads, laid(stdelf.Prog64{Type: uint32(stdelf.PT_LOAD), Flags: s.Flags, Off: uint64(64 + 56*len(e.Segs) + len(data)), Vaddr: s.Va, Paddr: s.Va, Filesz: uint64(len(s.Data)), Memsz: s.Mem, Align: 4096})...)
		data = append(data, s.Data...)
	}
	file := laid(plainHead(e.Entry, len(e.Segs)), heads, data)
	if len(file) > 262144 {
		return nil, reason{0, api.ErrElfLong}
	}
	return file, reason{}
}

// lies tells whether the file has all of the bytes.
func lies(b []byte, at, n uint64) bool { return sum(at, n).Cmp(big.NewInt(int64(len(b)))) <= 0 }

func wantHead(b []byte) (h stdelf.Header64, r reason) {
	if len(b) > 262144 {
		return h, reason{262144, api.ErrElfLong}
	}
	if len(b) < 64 {
		return h, reason{len(b), api.ErrElfShort}
	}
	if err := binary.Read(bytes.NewReader(b), binary.LittleEndian, &h); err != nil {
		panic(err)
	}
	for _, c := range []struct {
		right bool
		at    int
		errno api.Errno
	}{
		{string(h.Ident[:4]) == stdelf.ELFMAG, 0, api.ErrElfMagic},
		{stdelf.Class(h.Ident[4]) == stdelf.ELFCLASS64, 4, api.ErrElfMagic},
		{stdelf.Data(h.Ident[5]) == stdelf.ELFDATA2LSB, 5, api.ErrElfMagic},
		{stdelf.Version(h.Ident[6]) == stdelf.EV_CURRENT, 6, api.ErrElfMagic},
		{stdelf.Type(h.Type) == stdelf.ET_EXEC, 16, api.ErrElfHead},
		{stdelf.Machine(h.Machine) == stdelf.EM_RISCV, 18, api.ErrElfHead},
		{h.Version == 1, 20, api.ErrElfHead},
		{h.Ehsize == 64, 52, api.ErrElfHead},
		{h.Phentsize == 56, 54, api.ErrElfHead},
		{h.Phnum >= 1 && h.Phnum <= 64, 56, api.ErrElfSegs},
		{lies(b, h.Phoff, 56*uint64(h.Phnum)), 32, api.ErrElfShort},
	} {
		if !c.right {
			return h, reason{c.at, c.errno}
		}
	}
	return h, reason{}
}

func wantRead(b []byte) (api.Elf, reason) {
	h, r := wantHead(b)
	if r != (reason{}) {
		return api.Elf{}, r
	}
	e := api.Elf{Entry: h.Entry}
	for k := range int(h.Phnum) {
		at := int(h.Phoff) + 56*k
		var p stdelf.Prog64
		if err := binary.Read(bytes.NewReader(b[at:]), binary.LittleEndian, &p); err != nil {
			panic(err)
		}
		if stdelf.ProgType(p.Type) != stdelf.PT_LOAD {
			continue
		}
		s := api.Seg{Va: p.Vaddr, Flags: p.Flags, Mem: p.Memsz}
		switch {
		case len(e.Segs) == 8:
			return api.Elf{}, reason{at, api.ErrElfSegs}
		case wrongSeg(s, p.Filesz):
			return api.Elf{}, reason{at, api.ErrElfSeg}
		case p.Filesz > 0 && !lies(b, p.Off, p.Filesz):
			return api.Elf{}, reason{at, api.ErrElfShort}
		case len(e.Segs) > 0 && overlaps(e.Segs[len(e.Segs)-1], s):
			return api.Elf{}, reason{at, api.ErrElfOverlap}
		}
		if p.Filesz > 0 {
			s.Data = bytes.Clone(b[p.Off : p.Off+p.Filesz])
		}
		e.Segs = append(e.Segs, s)
	}
	if e.Segs == nil {
		return api.Elf{}, reason{56, api.ErrElfSegs}
	}
	if wrongEntry(e) {
		return api.Elf{}, reason{24, api.ErrElfEntry}
	}
	return e, reason{}
}

// reasonOf takes a refusal apart, and holds its form against DOC.md, Errors.
func reasonOf(t *testing.T, err error) reason {
	t.Helper()
	if err == nil {
		return reason{}
	}
	f, ok := err.(*api.Fault)
	if !ok || f == nil || f.Layer != "elf" {
		t.Fatalf("no fault of this layer: %#v", err)
	}
	errno, ok := f.Err.(api.Errno)
	if !ok || errno == api.OK {
		t.Fatalf("nothing behind the fault: %#v", f)
	}
	return reason{f.At, errno}
}

// checkWrite holds Write and Pages of a program against the chapter; it tells what Write answered.
func checkWrite(t *testing.T, e api.Elf) ([]byte, reason) {
	t.Helper()
	want, wantWhy := wantWrite(e)
	got, err := elf.Write(e)
	if why := reasonOf(t, err); why != wantWhy {
		t.Fatalf("Write of %s: %+v, not %+v", told(e), why, wantWhy)
	}
	if !bytes.Equal(got, want) || wantWhy != (reason{}) && got != nil {
		t.Fatalf("Write of %s: % x, not % x", told(e), got, want)
	}
	wantN, wantWhyPages := wantPages(e)
	n, err := elf.Pages(e)
	if why := reasonOf(t, err); n != wantN || why != wantWhyPages {
		t.Fatalf("Pages of %s: %d, %+v, not %d, %+v", told(e), n, why, wantN, wantWhyPages)
	}
	return got, wantWhy
}

// checkRead holds Read of a file against the chapter.
func checkRead(t *testing.T, b []byte) (api.Elf, reason) {
	t.Helper()
	want, wantWhy := wantRead(b)
	got, err := elf.Read(b)
	if why := reasonOf(t, err); why != wantWhy {
		t.Fatalf("Read of %d bytes, % x: %+v, not %+v", len(b), b[:min(len(b), 600)], why, wantWhy)
	}
	if !reflect.DeepEqual(got, want) {
		t.Fatalf("Read of %d bytes, % x: %s, not %s", len(b), b[:min(len(b), 600)], told(got), told(want))
	}
	return got, wantWhy
}
