package elf_test

// Programs and files that are drawn: most are right or nearly so; held against the chapter's second reading.

import (
	stdelf "debug/elf"
	"math"
	"reflect"
	"testing"

	"hartix/api"
	"hartix/elf"
)

func drawnBytes(s *scatter, n int) []byte {
	var b []byte
	for range n {
		b = append(b, byte(s.next()>>13))
	}
	return b
}

func drawnFlags(s *scatter) uint32 { return pick(s, uint32(1), 4, 5, 5, 5, 6, 7) }

// drawnProgram gives a program that may be; of a segment without bytes Data is nil.
func drawnProgram(s *scatter) api.Elf {
	var e api.Elf
	va := uint64(s.below(4)) << 12
	for range 1 + s.below(8) {
		seg := api.Seg{Va: va, Flags: drawnFlags(s), Data: drawnBytes(s, pick(s, 0, 1, s.below(20), s.below(200)))}
		seg.Mem = uint64(len(seg.Data)) + pick(s, 0, 1, 4096, s.next()>>45)
		if s.below(4) == 0 {
			seg.Mem = (seg.Mem + 4095) &^ 4095
		}
		seg.Mem = max(seg.Mem, 1)
		e.Segs = append(e.Segs, seg)
		va = (seg.Va+seg.Mem+4095)&^4095 + pick(s, 0, 0, 4096, s.next()>>50<<12)
	}
	at := s.below(len(e.Segs))
	e.Segs[at].Flags |= api.SegX | api.SegR
	last := e.Segs[at].Va + e.Segs[at].Mem - 1
	e.Entry = pick(s, e.Segs[at].Va, last&^1, (e.Segs[at].Va+s.next()%e.Segs[at].Mem)&^1)
	return e
}

func drawnNumber(s *scatter) uint64 {
	return pick(s, 0, 1, 2, 4095, 4096, 8192, 1<<30, 1<<30-4096, 1<<32, 1<<63, math.MaxUint64, math.MaxUint64-4095, s.next()>>s.below(64), s.next()>>40<<12)
}

// turned makes a program wrong in a place, or nearly so.
func turned(s *scatter, e *api.Elf) {
	k := s.below(len(e.Segs))
	seg := &e.Segs[k]
	switch s.below(10) {
	case 0:
		seg.Va = pick(s, drawnNumber(s), seg.Va-4096, seg.Va+4096, seg.Va+1)
	case 1:
		seg.Flags = pick(s, 0, 1, 2, 3, 4, 5, 6, 7, 8, uint32(s.next()))
	case 2:
		seg.Mem = pick(s, drawnNumber(s), uint64(len(seg.Data)), uint64(len(seg.Data))-1, uint64(len(seg.Data))+1)
	case 3:
		seg.Mem = pick(s, 1<<30-seg.Va, 1<<30-seg.Va+1, -seg.Va, 1-seg.Va)
	case 4:
		if k > 0 {
			ahead := e.Segs[k-1]
			seg.Va = pick(s, (ahead.Va+ahead.Mem)&^4095, (ahead.Va+ahead.Mem+4095)&^4095, ahead.Va)
		}
	case 5, 6:
		e.Entry = pick(s, drawnNumber(s), e.Entry+1, seg.Va, seg.Va+seg.Mem, seg.Va+seg.Mem-1, seg.Va+seg.Mem-2, seg.Va-2)
	case 7:
		if k > 0 {
			e.Segs[k], e.Segs[k-1] = e.Segs[k-1], e.Segs[k]
		}
	case 8:
		e.Segs = append(e.Segs, e.Segs[k:]...)
	case 9:
		e.Segs = e.Segs[:k]
	}
}

func TestDrawnPrograms(t *testing.T) {
	s := scatter(71)
	outcomes := map[api.Errno]int{}
	for k := range 30000 {
		e := drawnProgram(&s)
		for range s.below(3) {
			if len(e.Segs) > 0 {
				turned(&s, &e)
			}
		}
		if k%500 == 0 && len(e.Segs) > 0 {
			e = withBytes(1+s.below(8), api.MaxElf-3+s.below(7))
		}
		_, why := checkWrite(t, e)
		outcomes[why.errno]++
	}
	for _, errno := range []api.Errno{api.OK, api.ErrElfSegs, api.ErrElfSeg, api.ErrElfOverlap, api.ErrElfEntry} {
		if outcomes[errno] < 500 {
			t.Errorf("%d came %d times", errno, outcomes[errno])
		}
	}
	if outcomes[api.ErrElfLong] < 10 {
		t.Errorf("too long came %d times", outcomes[api.ErrElfLong])
	}
}

// drawnFile lays a program down in another way than Write does: other headers among the segments', bytes shared and anywhere, room anywhere.
func drawnFile(s *scatter) []byte {
	e := drawnProgram(s)
	var heads []stdelf.Prog64
	for _, seg := range e.Segs {
		for s.below(4) == 0 {
			heads = append(heads, other(pick(s, uint32(0), 2, 3, 6, 7, 257, math.MaxUint32)))
		}
		heads = append(heads, stdelf.Prog64{Type: 1, Flags: seg.Flags, Vaddr: seg.Va, Paddr: s.next(), Filesz: uint64(len(seg.Data)), Memsz: seg.Mem, Align: s.next()})
	}
	room := s.below(100)
	begin := uint64(64 + s.below(room+1))
	size := 64 + room + 56*len(heads) + 200 + s.below(100)
	for k := range heads {
		if p := &heads[k]; p.Type == 1 && p.Filesz > 0 {
			p.Off = pick(s, uint64(s.below(size-int(p.Filesz)+1)), uint64(size)-p.Filesz)
		} else if p.Type == 1 {
			p.Off = drawnNumber(s)
		}
	}
	h := plainHead(e.Entry, len(heads))
	h.Phoff, h.Shoff, h.Flags, h.Shnum = begin, s.next(), uint32(s.next()), uint16(s.next())
	file := drawnBytes(s, size)
	copy(file, laid(h))
	copy(file[begin:], laid(heads))
	return file
}

// turnedFile turns a field of a header, mostly one that counts.
func turnedFile(s *scatter, b []byte) []byte {
	h, _ := wantHead(b)
	at := int(h.Phoff) + 56*s.below(max(int(h.Phnum), 1))
	switch s.below(12) {
	case 0:
		return put(b, pick(s, 0, 4, 5, 6, 16, 18, 20, 52, 54), 1, s.next())
	case 1:
		return put(b, 24, 8, pick(s, drawnNumber(s), h.Entry+1, h.Entry+4096, h.Entry-4096))
	case 2:
		return put(b, 32, 8, pick(s, drawnNumber(s), h.Phoff+56, h.Phoff-56, uint64(len(b)), uint64(len(b))-56*uint64(h.Phnum), uint64(len(b))-56*uint64(h.Phnum)+1))
	case 3:
		return put(b, 56, 2, pick(s, 0, uint64(h.Phnum)+1, uint64(h.Phnum)-1, 64, 65, s.next()))
	case 4:
		return b[:s.below(len(b)+1)]
	case 5:
		return put(b, s.below(len(b)-1), 2, s.next())
	}
	if len(b) < 64 || at < 0 || at+56 > len(b) {
		return b
	}
	switch s.below(6) {
	case 0:
		return put(b, at, 4, pick(s, 1, 1, 1, 0, s.next()))
	case 1:
		return put(b, at+4, 4, pick(s, 0, 1, 2, 3, 4, 5, 6, 7, 8, s.next()))
	case 2:
		return put(b, at+8, 8, pick(s, drawnNumber(s), uint64(len(b)), uint64(len(b))-1, uint64(len(b))+1))
	case 3:
		return put(b, at+16, 8, drawnNumber(s))
	case 4:
		return put(b, at+32, 8, pick(s, drawnNumber(s), uint64(s.below(len(b)+2))))
	}
	return put(b, at+40, 8, pick(s, drawnNumber(s), uint64(s.below(len(b)+2))))
}

func TestDrawnFiles(t *testing.T) {
	s := scatter(72)
	outcomes := map[api.Errno]int{}
	for range 30000 {
		b := drawnFile(&s)
		for range s.below(4) {
			if len(b) > 64 {
				b = turnedFile(&s, b)
			}
		}
		_, why := checkRead(t, b)
		outcomes[why.errno]++
	}
	for _, errno := range []api.Errno{api.OK, api.ErrElfShort, api.ErrElfMagic, api.ErrElfHead, api.ErrElfSegs, api.ErrElfSeg, api.ErrElfOverlap, api.ErrElfEntry} {
		if outcomes[errno] < 100 {
			t.Errorf("%d came %d times", errno, outcomes[errno])
		}
	}
}

// Bytes without any order are refused, and break nothing.
func TestDrawnBytes(t *testing.T) {
	s := scatter(75)
	for range 3000 {
		b := drawnBytes(&s, s.below(400))
		checkRead(t, b)
		if len(b) >= 64 {
			copy(b, laid(plainHead(s.next(), s.below(4)))[:56+s.below(9)])
			checkRead(t, b)
		}
	}
}

// The answer hangs on the argument alone, whatever was asked before.
func TestToldAlike(t *testing.T) {
	s := scatter(76)
	for range 500 {
		b := turnedFile(&s, drawnFile(&s))
		e, errE := elf.Read(b)
		elf.Read(turnedFile(&s, drawnFile(&s)))
		f, errF := elf.Read(b)
		if !reflect.DeepEqual(e, f) || !reflect.DeepEqual(errE, errF) {
			t.Fatalf("% x: %s, %v, then %s, %v", b, told(e), errE, told(f), errF)
		}
	}
}
