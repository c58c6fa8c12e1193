package space

import (
	"bytes"

	"hartix/api"
	"hartix/sv39"
)

// reach tells where in RAM the byte with the address va lies, if it may be reached.
type reach func(va uint64) (pa uint64, ok bool)

// forUser reaches what the program itself has that access to.
func (s *Space) forUser(a api.Access) reach {
	return func(va uint64) (uint64, bool) { return sv39.Translate(s.memory, s.root, va, a) }
}

// forKernel reaches every page.
func (s *Space) forKernel(va uint64) (uint64, bool) {
	leaf := s.leaf(va)
	return frameOf(leaf) + va%api.PageSize, leaf != 0
}

// each goes through n bytes from va on, page by page, and tells do where each piece of them lies in RAM. It ends early, and answers false, at a page that is out of reach, or when do says so.
func (s *Space) each(va uint64, n int, at reach, do func(pa uint64, n int) bool) bool {
	for n > 0 {
		pa, ok := at(va)
		piece := min(n, int(api.PageSize-va%api.PageSize))
		if !ok || !do(pa, piece) {
			return false
		}
		va += uint64(piece)
		n -= piece
	}
	return true
}

// end is the first address behind its pages: no row of bytes beyond it can be reached.
func (s *Space) end() uint64 { return addressOf(s.Pages()) }

// fits tells whether n bytes from va on end at an address or ahead of it, without a sum that could wrap.
func fits(va uint64, n int, end uint64) bool {
	return n >= 0 && va <= end && uint64(n) <= end-va
}

// In reads bytes that the user may read (P8.9).
func (s *Space) In(va uint64, n int) ([]byte, bool) {
	switch {
	case n == 0:
		return nil, s.made()
	case !fits(va, n, s.end()):
		return nil, false
	}
	all := make([]byte, n)
	rest := all
	ok := s.each(va, n, s.forUser(api.Load), func(pa uint64, n int) bool {
		piece, ok := s.memory.Read(pa, n)
		rest = rest[copy(rest, piece):]
		return ok
	})
	if !ok {
		return nil, false
	}
	return all, true
}

// CanOut tells whether the user may write there (P8.10).
func (s *Space) CanOut(va uint64, n int) bool {
	if n == 0 {
		return s.made()
	}
	reached := func(uint64, int) bool { return true }
	return fits(va, n, s.end()) && s.each(va, n, s.forUser(api.Store), reached)
}

// Out writes bytes where the user may write (P8.10).
func (s *Space) Out(va uint64, b []byte) bool {
	return s.CanOut(va, len(b)) && s.put(va, b, s.forUser(api.Store))
}

// Poke writes bytes whatever the user may (P8.12).
func (s *Space) Poke(va uint64, b []byte) bool {
	return s.made() && fits(va, len(b), s.size) && s.put(va, b, s.forKernel)
}

func (s *Space) put(va uint64, b []byte, at reach) bool {
	return s.each(va, len(b), at, func(pa uint64, n int) bool {
		piece := b[:n]
		b = b[n:]
		return s.memory.Write(pa, piece)
	})
}

// Str reads a text that ends with a 0 byte (P8.11).
func (s *Space) Str(va uint64, most int) (string, bool) {
	if !fits(va, 1, s.end()) {
		return "", false
	}
	var text []byte
	ended := false
	s.each(va, min(most, int(s.end()-va)), s.forUser(api.Load), func(pa uint64, n int) bool {
		piece, _ := s.memory.Read(pa, n)
		before, _, found := bytes.Cut(piece, []byte{0})
		text = append(text, before...)
		ended = found
		return !found
	})
	if !ended {
		return "", false
	}
	return string(text), true
}
