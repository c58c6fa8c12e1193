package census

import "hartix/api"

// check looks at things one by one, in their order.
type check struct {
	things int                    // how many there are
	look   func(at int) api.Wrong // what is wrong with one; zero, if nothing is
}

// checks are P17.3's nine, in their order.
func (s *survey) checks() []check {
	l := s.look
	return []check{
		{len(s.namings), s.wrongPlace},
		{len(s.frames), s.wrongFrame},
		{1, func(int) api.Wrong { return unless(l.Free == s.free, api.WrongFree, 0) }},
		{len(l.Procs), func(at int) api.Wrong { return unless(s.isProc(at), api.WrongProc, l.Procs[at].Slot) }},
		{len(l.Procs), func(at int) api.Wrong { return unless(hasItsPages(l.Procs[at]), api.WrongPages, l.Procs[at].Slot) }},
		{len(l.Procs), func(at int) api.Wrong { return unless(s.hasItsFds(l.Procs[at]), api.WrongFd, l.Procs[at].Slot) }},
		{len(l.Files), func(at int) api.Wrong { return unless(s.isFile(at), api.WrongFile, l.Files[at].Num) }},
		{len(l.Inodes), func(at int) api.Wrong { return unless(s.isInode(at), api.WrongInode, l.Inodes[at].Ino) }},
		{len(l.Pipes), func(at int) api.Wrong { return unless(s.isPipe(at), api.WrongPipe, l.Pipes[at].Num) }},
	}
}

// wrong tells the first thing that is wrong.
func (s *survey) wrong() api.Wrong {
	for _, c := range s.checks() {
		for at := range c.things {
			if w := c.look(at); w != (api.Wrong{}) {
				return w
			}
		}
	}
	return api.Wrong{}
}

func unless(sound bool, kind, n int) api.Wrong {
	if sound {
		return api.Wrong{}
	}
	return api.Wrong{Kind: kind, N: n}
}

func (s *survey) wrongPlace(at int) api.Wrong {
	_, is := frameAt(s.namings[at].address, len(s.frames))
	return unless(is, api.WrongPlace, at)
}

func (s *survey) wrongFrame(at int) api.Wrong {
	switch s.frames[at].Times {
	case 0:
		return api.Wrong{Kind: api.WrongLost, N: at}
	case 1:
		return api.Wrong{}
	}
	return api.Wrong{Kind: api.WrongShared, N: at}
}

// isNumbered tells whether a thing's number is one from least to most, and above that of the one ahead of it.
func isNumbered[T any](list []T, at int, number func(T) int, least, most int) bool {
	n := number(list[at])
	return least <= n && n <= most && (at == 0 || number(list[at-1]) < n)
}

func (s *survey) isProc(at int) bool {
	p := s.look.Procs[at]
	slotOf := func(p api.ProcLook) int { return p.Slot }
	return isNumbered(s.look.Procs, at, slotOf, 0, api.MaxProcs-1) &&
		(p.State == api.ProcRun || p.State == api.ProcSleep || p.State == api.ProcZombie) &&
		p.Pid >= 1 && p.Pid < s.look.NextPid && s.places[thing{aPid, p.Pid}] == at &&
		s.has(thing{aSlot, p.Parent})
}

// hasItsPages tells whether a process has the pages and nodes that its size asks for.
func hasItsPages(p api.ProcLook) bool {
	pages := begun(p.Size, api.PageSize)
	if uint64(len(p.Pages)) != pages || len(p.Nodes) != Nodes(len(p.Pages)) {
		return false
	}
	for number, page := range p.Pages {
		if page.Page != uint64(number) {
			return false
		}
	}
	return true
}

// hasItsFds tells whether a process's descriptors and current directory are there; a zombie has none.
func (s *survey) hasItsFds(p api.ProcLook) bool {
	const none = -1
	ended := p.State == api.ProcZombie
	for _, f := range p.Fds {
		if f != none && (ended || !s.has(thing{aFile, f})) {
			return false
		}
	}
	return ended || s.has(thing{aDir, p.Cwd})
}

func (s *survey) isFile(at int) bool {
	f := s.look.Files[at]
	numOf := func(f api.FileLook) int { return f.Num }
	return isNumbered(s.look.Files, at, numOf, 0, api.MaxFiles-1) &&
		f.Refs >= 1 && f.Refs == s.named[thing{aFile, f.Num}] && s.hasBehind(f)
}

// hasBehind tells whether what an open file names is there.
func (s *survey) hasBehind(f api.FileLook) bool {
	switch f.Kind {
	case api.FileIno:
		return s.has(thing{anInode, f.Ino})
	case api.FileReader, api.FileWriter:
		return s.has(thing{aPipe, f.Pipe})
	}
	return false
}

func (s *survey) isInode(at int) bool {
	i := s.look.Inodes[at]
	numOf := func(i api.InodeLook) int { return i.Ino }
	return isNumbered(s.look.Inodes, at, numOf, api.RootIno, api.MaxInodes-1) &&
		i.Refs == s.named[thing{anInode, i.Ino}] &&
		(i.Links != 0 || i.Refs != 0 || i.Ino == api.RootIno) &&
		i.Size >= 0 && uint64(len(i.Blocks)) == begun(uint64(i.Size), api.PageSize)
}

func (s *survey) isPipe(at int) bool {
	p := s.look.Pipes[at]
	numOf := func(p api.PipeLook) int { return p.Num }
	return isNumbered(s.look.Pipes, at, numOf, 0, api.MaxPipes-1) &&
		p.State.Reader == s.isNamed(thing{aReader, p.Num}) &&
		p.State.Writer == s.isNamed(thing{aWriter, p.Num}) &&
		(p.State.Reader || p.State.Writer)
}
