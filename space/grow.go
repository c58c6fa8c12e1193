package space

import "hartix/api"

// Grow makes its memory longer (P8.4).
func (s *Space) Grow(to, perm uint64) api.Errno {
	switch {
	case !s.made():
		return api.ErrZero
	case to < s.size || to > api.UserTop:
		return api.ErrSpaceSize
	case !mayBePerm(perm):
		return api.ErrSpacePerm
	case !s.hasRoom(pagesOf(to)):
		return api.ErrSpaceRoom
	}
	if to > s.size {
		s.clearTail()
	}
	for page := s.Pages(); page < pagesOf(to); page++ {
		s.lay(page, perm|api.PteU|api.PteA|api.PteD)
	}
	s.size = to
	return api.OK
}

func mayBePerm(perm uint64) bool {
	reads, writes := perm&api.PteR != 0, perm&api.PteW != 0
	return perm&^api.PteUser == 0 && (reads || perm&api.PteX != 0) && (reads || !writes)
}

// hasRoom tells whether the demand of so many pages, not fewer than there are, can be met.
func (s *Space) hasRoom(pages int) bool {
	demand := pages - s.Pages() + Nodes(pages) - Nodes(s.Pages())
	return pages <= api.MaxFrames && demand <= s.memory.Count()
}

// clearTail makes the bytes of the last page behind the size 0: a longer memory must not bring back what stood there before it was shortened.
func (s *Space) clearTail() {
	tail := int(s.end() - s.size)
	s.each(s.size, tail, s.forKernel, func(pa uint64, n int) bool {
		piece, _ := s.memory.Read(pa, n)
		clear(piece)
		return s.memory.Write(pa, piece)
	})
}

// Shrink makes its memory shorter (P8.5).
func (s *Space) Shrink(to uint64) api.Errno {
	switch {
	case !s.made():
		return api.ErrZero
	case to > s.size:
		return api.ErrSpaceSize
	}
	for page := pagesOf(to); page < s.Pages(); page++ {
		s.take(page)
	}
	s.size = to
	return api.OK
}

// Guard takes a page from the user (P8.6).
func (s *Space) Guard(page int) api.Errno {
	switch {
	case !s.made():
		return api.ErrZero
	case page < 0 || page >= s.Pages():
		return api.ErrSpacePage
	}
	s.guard(page)
	return api.OK
}
