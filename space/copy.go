package space

import "hartix/api"

// Copy gives a space of its own that is alike (P8.7).
func (s *Space) Copy(trapframe uint64) (*Space, api.Errno) {
	if !s.made() {
		return nil, api.ErrZero
	}
	tramp := frameOf(s.leaf(api.Tramp))
	switch {
	case !areTwoFrames(s.memory, trapframe, tramp) || trapframe == frameOf(s.leaf(api.TrapFrame)):
		return nil, api.ErrSpaceFrame
	case s.memory.Count() < s.Pages()+Nodes(s.Pages()):
		return nil, api.ErrSpaceRoom
	}
	return s.copyInto(&Space{table: newTable(s.memory, trapframe, tramp)})
}

// copyInto fills a space without pages. A page that can't be read is one into whose node somebody has written: the copy can't be finished then, and must not hold what nobody would give back.
func (s *Space) copyInto(c *Space) (*Space, api.Errno) {
	finished := false
	defer func() {
		if !finished {
			c.Free()
		}
	}()
	for page := range s.Pages() {
		leaf := s.leaf(addressOf(page))
		content, ok := s.memory.Read(frameOf(leaf), api.PageSize)
		if !ok {
			return nil, api.ErrSpacePage
		}
		c.memory.Write(c.lay(page, leaf&api.PteAll), content)
		c.size += api.PageSize
	}
	c.size = s.size
	finished = true
	return c, api.OK
}

// Free gives its frames back (P8.8).
func (s *Space) Free() api.Errno {
	if !s.made() {
		return api.ErrZero
	}
	s.Shrink(0)
	s.free()
	*s = Space{}
	return api.OK
}
