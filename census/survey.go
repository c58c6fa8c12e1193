package census

import "hartix/api"

// survey is a look, and what is gathered of it.
type survey struct {
	look    api.OsLook
	free    int            // how many entries the free list has
	namings []naming       // all that name a frame
	frames  []api.FrameOwn // whose each frame is
	places  map[thing]int  // of what is there the place in its list; of several the first one's
	named   map[thing]int  // how often a thing is named
}

// thing is what can be there, or be named: what it is, and its number.
type thing struct {
	is  int
	num int
}

// What a thing is.
const (
	aSlot = iota
	aPid
	aFile
	anInode
	aDir
	aPipe
	aReader // an open reader's end, by its pipe's number
	aWriter // an open writer's end, likewise
)

func newSurvey(frames int, l api.OsLook, free []uint64) *survey {
	all := namings(l, free)
	s := &survey{
		look: l, free: len(free), namings: all, frames: ownFrames(all, frames),
		places: map[thing]int{}, named: map[thing]int{},
	}
	for at, p := range l.Procs {
		s.enterProc(at, p)
	}
	for at, f := range l.Files {
		s.enterFile(at, f)
	}
	for at, i := range l.Inodes {
		s.enterInode(at, i)
	}
	for at, p := range l.Pipes {
		s.enter(at, thing{aPipe, p.Num})
	}
	return s
}

// enter notes what is there, at a place of its list.
func (s *survey) enter(at int, t thing) {
	if !s.has(t) {
		s.places[t] = at
	}
}

func (s *survey) has(t thing) bool {
	_, there := s.places[t]
	return there
}

func (s *survey) isNamed(t thing) bool { return s.named[t] > 0 }

func (s *survey) enterProc(at int, p api.ProcLook) {
	s.enter(at, thing{aSlot, p.Slot})
	s.enter(at, thing{aPid, p.Pid})
	for _, f := range p.Fds {
		s.named[thing{aFile, f}]++
	}
	if p.State != api.ProcZombie {
		s.named[thing{anInode, p.Cwd}]++
	}
}

func (s *survey) enterFile(at int, f api.FileLook) {
	s.enter(at, thing{aFile, f.Num})
	if t, names := behind(f); names {
		s.named[t]++
	}
}

// behind tells what an open file names; false: its kind is none.
func behind(f api.FileLook) (thing, bool) {
	switch f.Kind {
	case api.FileIno:
		return thing{anInode, f.Ino}, true
	case api.FileReader:
		return thing{aReader, f.Pipe}, true
	case api.FileWriter:
		return thing{aWriter, f.Pipe}, true
	}
	return thing{}, false
}

func (s *survey) enterInode(at int, i api.InodeLook) {
	s.enter(at, thing{anInode, i.Ino})
	if i.Type == api.TypeDir {
		s.enter(at, thing{aDir, i.Ino})
	}
}

// fileCounts tells how often each open file is held and named.
func (s *survey) fileCounts() []api.Count {
	var counts []api.Count
	for _, f := range s.look.Files {
		counts = append(counts, api.Count{Num: f.Num, Held: f.Refs, Named: s.named[thing{aFile, f.Num}]})
	}
	return counts
}

// inodeCounts tells how often each inode is held and named.
func (s *survey) inodeCounts() []api.Count {
	var counts []api.Count
	for _, i := range s.look.Inodes {
		counts = append(counts, api.Count{Num: i.Ino, Held: i.Refs, Named: s.named[thing{anInode, i.Ino}]})
	}
	return counts
}
