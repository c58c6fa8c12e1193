package elf

import "hartix/api"

// check tells why a program may not be; how long its file would be is not looked at.
func check(e api.Elf) error {
	if len(e.Segs) == 0 || len(e.Segs) > api.MaxSegs {
		return refusal(0, api.ErrElfSegs)
	}
	for k, s := range e.Segs {
		if !mayBe(s, uint64(len(s.Data))) {
			return refusal(1+k, api.ErrElfSeg)
		}
		if !rises(e.Segs[:k], s) {
			return refusal(1+k, api.ErrElfOverlap)
		}
	}
	if !hasEntry(e) {
		return refusal(0, api.ErrElfEntry)
	}
	return nil
}

// mayBe looks at a segment by itself. The number of its bytes comes apart from it: of a file's it is known ahead of them.
func mayBe(s api.Seg, bytes uint64) bool {
	if s.Va%api.SegPage != 0 || !mayFlags(s.Flags) || s.Mem < 1 || s.Mem < bytes {
		return false
	}
	// Not by Va + Mem, which may wrap round.
	return s.Mem <= api.MaxSegEnd && s.Va <= api.MaxSegEnd-s.Mem
}

func mayFlags(flags uint32) bool {
	if flags < 1 || flags > api.SegX|api.SegW|api.SegR {
		return false
	}
	return flags&api.SegW == 0 || flags&api.SegR != 0
}

// rises tells whether a segment is behind those ahead of it. It begins with a page, so what is not below their end is apart from their pages.
func rises(ahead []api.Seg, s api.Seg) bool {
	if len(ahead) == 0 {
		return true
	}
	last := ahead[len(ahead)-1]
	return s.Va >= last.Va+last.Mem
}

func hasEntry(e api.Elf) bool {
	if e.Entry%2 != 0 {
		return false
	}
	for _, s := range e.Segs {
		if s.Flags&api.SegX != 0 && s.Va <= e.Entry && e.Entry < s.Va+s.Mem {
			return true
		}
	}
	return false
}
