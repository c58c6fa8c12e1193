package elf

import "hartix/api"

const (
	identBytes  = 16 // the header's first part: what is wrong there makes it no file of this kind
	maxSegHeads = 64
)

// reader is a file that is being read, and the segments that were found in it.
type reader struct {
	file []byte
	segs []api.Seg
}

// giveUp leaves the file from wherever it is; Read catches the refusal.
func giveUp(at int, reason api.Errno) { panic(refusal(at, reason)) }

func (r *reader) program() api.Elf {
	r.checkLength()
	r.checkHead()
	at, count := r.segHeads()
	for range count {
		r.readSegHead(at)
		at += api.ElfSegHead
	}
	if len(r.segs) == 0 {
		giveUp(headFields[headSegCount].offset, api.ErrElfSegs)
	}
	e := api.Elf{Entry: headFields[headEntry].in(r.file), Segs: r.segs}
	if !hasEntry(e) {
		giveUp(headFields[headEntry].offset, api.ErrElfEntry)
	}
	return e
}

func (r *reader) checkLength() {
	if len(r.file) > api.MaxElf {
		giveUp(api.MaxElf, api.ErrElfLong)
	}
	if len(r.file) < api.ElfHead {
		giveUp(len(r.file), api.ErrElfShort)
	}
}

func (r *reader) checkHead() {
	for _, f := range headFields {
		if f.fixed == 0 || f.in(r.file) == f.fixed {
			continue
		}
		if f.offset < identBytes {
			giveUp(f.offset, api.ErrElfMagic)
		}
		giveUp(f.offset, api.ErrElfHead)
	}
}

// segHeads tells where the segments' headers begin, and how many there are: all of them lie in the file.
func (r *reader) segHeads() (at int, count uint64) {
	count = headFields[headSegCount].in(r.file)
	if count == 0 || count > maxSegHeads {
		giveUp(headFields[headSegCount].offset, api.ErrElfSegs)
	}
	begin := headFields[headSegsAt].in(r.file)
	if !r.lies(begin, count*api.ElfSegHead) {
		giveUp(headFields[headSegsAt].offset, api.ErrElfShort)
	}
	return int(begin), count
}

// lies tells whether n bytes from a place on are in the file. The place may be any number, so the sum may wrap round.
func (r *reader) lies(at, n uint64) bool {
	size := uint64(len(r.file))
	return n <= size && at <= size-n
}

func (r *reader) readSegHead(at int) {
	h := cut(r.file, at, api.ElfSegHead)
	if segFields[segType].in(h) != segFields[segType].fixed {
		return
	}
	if len(r.segs) == api.MaxSegs {
		giveUp(at, api.ErrElfSegs)
	}
	s := api.Seg{
		Va:    segFields[segVa].in(h),
		Flags: uint32(segFields[segFlags].in(h)),
		Mem:   segFields[segMem].in(h),
	}
	bytesAt, bytes := segFields[segBytesAt].in(h), segFields[segBytes].in(h)
	if !mayBe(s, bytes) {
		giveUp(at, api.ErrElfSeg)
	}
	if bytes > 0 {
		s.Data = r.newBytes(at, bytesAt, bytes)
	}
	if !rises(r.segs, s) {
		giveUp(at, api.ErrElfOverlap)
	}
	r.segs = append(r.segs, s)
}

// newBytes copies the bytes of the segment whose header is at that place.
func (r *reader) newBytes(header int, at, n uint64) []byte {
	if !r.lies(at, n) {
		giveUp(header, api.ErrElfShort)
	}
	return append([]byte(nil), cut(r.file, int(at), int(n))...)
}
