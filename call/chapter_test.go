package call_test

// The chapter's rows read a second time, over the abstract machine.

import (
	"hartix/api"
	"hartix/tree"
)

// What became of a row.
const (
	answers = iota + 1 // with a value
	sleeps             // on a channel
	ends               // with a status
	anew               // another program
)

type became struct {
	how   int
	value int
	on    api.Chan
}

func value(v int) became { return became{how: answers, value: v} }

var no = value(-1)

func sleepOn(kind, n int) became { return became{how: sleeps, on: api.Chan{Kind: kind, N: n}} }

// call is P15.4.
func (m *machine) call(slot int) int {
	p := m.at(slot)
	if p == nil || p.state != api.ProcRun || p.doing != nil {
		return 0
	}
	if p.killed {
		m.end(slot, -1)
		return api.NextGone
	}
	p.regs.Pc += 4
	number := p.regs.X[17]
	if number > 21 {
		p.regs.X[10] = 1<<64 - 1
		return api.NextUser
	}
	p.doing = &api.Pending{Num: int(number), Args: [3]uint64{p.regs.X[10], p.regs.X[11], p.regs.X[12]}}
	return m.become(p, m.row(p))
}

// goOn is P15.5.
func (m *machine) goOn(slot int) int {
	p := m.at(slot)
	if p == nil || p.state != api.ProcRun || p.doing == nil {
		return 0
	}
	if p.killed {
		m.end(slot, -1)
		return api.NextGone
	}
	return m.become(p, m.row(p))
}

func (m *machine) become(p *plainProc, b became) int {
	switch b.how {
	case answers:
		p.regs.X[10] = uint64(b.value)
		p.doing = nil
		return api.NextUser
	case sleeps:
		p.state, p.on = api.ProcSleep, b.on
		return api.NextSleep
	case ends:
		m.end(p.slot, int32(b.value))
		return api.NextGone
	}
	p.doing = nil
	return api.NextUser
}

// row tells what becomes of the call in whose midst a process is, and does it.
func (m *machine) row(p *plainProc) became {
	a := p.doing.Args
	int0, int1, int2 := int(int32(a[0])), int(int32(a[1])), int(int32(a[2]))
	switch p.doing.Num {
	case 1:
		return m.fork(p)
	case 2:
		return became{how: ends, value: int0}
	case 3:
		return m.wait(p, a[0])
	case 4:
		return m.pipe(p, a[0])
	case 5:
		return m.read(p, int0, a[1], int2)
	case 6:
		return m.kill(int0)
	case 7:
		return m.exec(p, a[0], a[1])
	case 8:
		return m.fstat(p, int0, a[1])
	case 9:
		return m.chdir(p, a[0])
	case 10:
		return m.dup(p, int0)
	case 11:
		return value(p.pid)
	case 12:
		return m.sbrk(p, int0)
	case 13:
		return m.sleep(p, int0)
	case 14:
		return value(int(m.ticks))
	case 15:
		return m.open(p, a[0], int1)
	case 16:
		return m.write(p, int0, a[1], int2)
	case 21:
		return m.close(p, int0)
	}
	return m.nameRow(p, a)
}

// nameRow has the calls that the tree does alone.
func (m *machine) nameRow(p *plainProc, a [3]uint64) became {
	path, ok := p.str(a[0], 128)
	if !ok {
		return no
	}
	errno := api.ErrArg
	switch p.doing.Num {
	case 17:
		_, errno = m.x.Make(p.cwd, path, api.TypeDev, int16(a[1]), int16(a[2]))
	case 18:
		errno = m.x.Unlink(p.cwd, path)
	case 19:
		name, ok := p.str(a[1], 128)
		ino, found := m.x.Find(p.cwd, path)
		if ok && found == api.OK {
			errno = m.x.Link(ino, p.cwd, name)
		}
	case 20:
		_, errno = m.x.Make(p.cwd, path, api.TypeDir, 0, 0)
	}
	if errno != api.OK {
		return no
	}
	return value(0)
}

func (m *machine) fork(p *plainProc) became {
	slot := -1
	for k := slots - 1; k >= 0; k-- {
		if m.procs[k] == nil {
			slot = k
		}
	}
	if m.next > maxPid || slot < 0 || m.r.Count() < worthOf(len(p.pages)) {
		return no
	}
	child := &plainProc{slot: slot, pid: m.next, parent: p.slot, state: api.ProcRun, regs: p.regs, size: p.size, fds: map[int]int{}, cwd: p.cwd}
	m.next++
	child.regs.X[10] = 0
	for _, from := range p.pages {
		child.pages = append(child.pages, plainPage{append([]byte(nil), from.data...), from.perm})
	}
	for fd, f := range p.fds {
		child.fds[fd] = f
		m.files[f].Refs++
	}
	m.x.Hold(p.cwd)
	m.settle(child, worthOf(len(child.pages)))
	m.procs[slot] = child
	return value(child.pid)
}

func (m *machine) wait(p *plainProc, at uint64) became {
	children := false
	for slot, child := range m.procs {
		if child == nil || slot == p.slot || child.parent != p.slot {
			continue
		}
		children = true
		if child.state != api.ProcZombie {
			continue
		}
		status := []byte{byte(child.status), byte(child.status >> 8), byte(child.status >> 16), byte(child.status >> 24)}
		if at != 0 && !p.outBytes(at, status) {
			return no
		}
		m.settle(child, 0)
		m.procs[slot] = nil
		return value(child.pid)
	}
	if !children {
		return no
	}
	return sleepOn(api.ChanChild, p.slot)
}

func (m *machine) kill(pid int) became {
	for _, p := range m.procs {
		if p == nil || p.pid != pid {
			continue
		}
		if p.state != api.ProcZombie {
			p.killed, p.state, p.on = true, api.ProcRun, api.Chan{}
		}
		return value(0)
	}
	return no
}

func (m *machine) sleep(p *plainProc, n int) became {
	if n < 1 {
		return value(0)
	}
	if p.doing.Due == 0 {
		p.doing.Due = m.ticks + uint64(n)
	}
	if m.ticks >= p.doing.Due {
		return value(0)
	}
	return sleepOn(api.ChanTime, 0)
}

func (m *machine) sbrk(p *plainProc, n int) became {
	s, pages := int(p.size), len(p.pages)
	to := s + n
	need := (to + page - 1) / page
	switch {
	case to < 0, to > userTop:
		return no
	case n > 0 && need-pages+nodesOf(need)-nodesOf(pages) > m.r.Count():
		return no
	case n > 0 && pages > 0 && s%page != 0:
		clear(p.pages[pages-1].data[s%page:])
	}
	for len(p.pages) < need {
		p.pages = append(p.pages, plainPage{make([]byte, page), mayRead | mayWrite | isUsers})
	}
	p.pages = p.pages[:need]
	p.size = uint64(to)
	m.settle(p, worthOf(need))
	return value(s)
}

// exec is P15.11.
func (m *machine) exec(p *plainProc, at, argv uint64) became {
	path, ok := p.str(at, 128)
	if !ok {
		return no
	}
	var args []string
	for i := 0; ; i++ {
		b, ok := p.in(argv+8*uint64(i), 8)
		if !ok {
			return no
		}
		q := uint64(0)
		for k := range 8 {
			q |= uint64(b[k]) << (8 * k)
		}
		if q == 0 {
			break
		}
		if i == 32 {
			return no
		}
		arg, ok := p.str(q, page)
		if !ok {
			return no
		}
		args = append(args, arg)
	}
	ino, errno := m.x.Find(p.cwd, path)
	if errno != api.OK || m.x.Look(ino).Type != api.TypeFile {
		return no
	}
	if m.load(p, m.x.Read(ino, 0, 1<<18), args) != api.OK {
		return no
	}
	m.settle(p, worthOf(len(p.pages)))
	return became{how: anew}
}

func (m *machine) pipe(p *plainProc, at uint64) became {
	if mostFds-len(p.fds) < 2 || mostFile-len(m.files) < 2 || len(m.pipes) == mostPipe || !p.canOut(at, 8) {
		return no
	}
	n := least(m.pipes)
	m.pipes[n] = &plainPipe{}
	var fds [2]int
	for k, end := range []api.FileLook{{Kind: api.FileReader, Readable: true}, {Kind: api.FileWriter, Writable: true}} {
		fds[k] = least(p.fds)
		end.Num, end.Refs, end.Pipe = least(m.files), 1, n
		p.fds[fds[k]] = end.Num
		m.files[end.Num] = &end
	}
	p.outBytes(at, []byte{byte(fds[0]), 0, 0, 0, byte(fds[1]), 0, 0, 0})
	return value(0)
}

func (m *machine) dup(p *plainProc, fd int) became {
	f, ok := p.fds[fd]
	if !ok || len(p.fds) == mostFds {
		return no
	}
	fd = least(p.fds)
	p.fds[fd] = f
	m.files[f].Refs++
	return value(fd)
}

func (m *machine) close(p *plainProc, fd int) became {
	f, ok := p.fds[fd]
	if !ok {
		return no
	}
	delete(p.fds, fd)
	m.letGo(f)
	return value(0)
}

func (m *machine) fstat(p *plainProc, fd int, at uint64) became {
	f, ok := p.fds[fd]
	if !ok || m.files[f].Kind != api.FileIno {
		return no
	}
	look := m.x.Look(m.files[f].Ino)
	b := make([]byte, 24)
	b[0] = 1
	b[4] = byte(look.Ino)
	b[8] = byte(look.Type)
	b[10], b[11] = byte(look.Links), byte(look.Links>>8)
	for k := range 8 {
		b[16+k] = byte(look.Size >> (8 * k))
	}
	if !p.outBytes(at, b) {
		return no
	}
	return value(0)
}

func (m *machine) chdir(p *plainProc, at uint64) became {
	path, ok := p.str(at, 128)
	if !ok {
		return no
	}
	ino, errno := m.x.Find(p.cwd, path)
	if errno != api.OK || m.x.Look(ino).Type != api.TypeDir {
		return no
	}
	m.x.Hold(ino)
	m.x.Drop(p.cwd)
	p.cwd = ino
	return value(0)
}

// open is P15.12.
func (m *machine) open(p *plainProc, at uint64, mode int) became {
	path, ok := p.str(at, 128)
	if !ok || len(p.fds) == mostFds || len(m.files) == mostFile {
		return no
	}
	ino, errno := m.x.Find(p.cwd, path)
	look := m.x.Look(ino)
	if mode&0x200 != 0 {
		switch {
		case errno == api.OK && look.Type == api.TypeDir:
			return no
		case errno != api.OK:
			if ino, errno = m.x.Make(p.cwd, path, api.TypeFile, 0, 0); errno != api.OK {
				return no
			}
			look = m.x.Look(ino)
		}
	} else if errno != api.OK || look.Type == api.TypeDir && mode != 0 {
		return no
	}
	if look.Type == api.TypeDev && look.Major != 1 {
		return no
	}
	if mode&0x400 != 0 && look.Type == api.TypeFile {
		m.x.Trunc(ino)
	}
	m.x.Hold(ino)
	f, fd := least(m.files), least(p.fds)
	m.files[f] = &api.FileLook{Num: f, Kind: api.FileIno, Refs: 1, Ino: ino, Readable: mode&1 == 0, Writable: mode&1 != 0 || mode&2 != 0}
	p.fds[fd] = f
	return value(fd)
}

// read is P15.10, of reads.
func (m *machine) read(p *plainProc, fd int, at uint64, n int) became {
	f, ok := p.fds[fd]
	if !ok || n < 0 || !m.files[f].Readable {
		return no
	}
	file := m.files[f]
	switch {
	case file.Kind == api.FileReader:
		return m.readPipe(p, file.Pipe, at, n)
	case m.x.Look(file.Ino).Type == api.TypeDev:
		return m.readConsole(p, at, n)
	}
	b := m.x.Read(file.Ino, file.Off, n)
	if !p.outBytes(at, b) {
		return no
	}
	file.Off += len(b)
	return value(len(b))
}

func (m *machine) readConsole(p *plainProc, at uint64, n int) became {
	if n == 0 {
		return value(0)
	}
	if !m.c.Ready() {
		return sleepOn(api.ChanConsole, 0)
	}
	b, _ := m.c.Peek(n)
	if !p.outBytes(at, b) {
		return no
	}
	m.c.Take(n)
	return value(len(b))
}

func (m *machine) readPipe(p *plainProc, number int, at uint64, n int) became {
	q := m.pipes[number]
	if n == 0 {
		return value(0)
	}
	if len(q.in) == 0 && m.hasEnd(api.FileWriter, number) {
		return sleepOn(api.ChanRead, number)
	}
	n = min(n, len(q.in))
	if !p.outBytes(at, q.in[:n]) {
		return no
	}
	q.in = q.in[n:]
	q.reads += n
	if n > 0 {
		m.wake(api.ChanWrite, number)
	}
	return value(n)
}

// write is P15.10, of writes.
func (m *machine) write(p *plainProc, fd int, at uint64, n int) became {
	f, ok := p.fds[fd]
	if !ok || n < 0 || !m.files[f].Writable {
		return no
	}
	file := m.files[f]
	b, ok := p.in(at, n)
	if !ok {
		return no
	}
	switch {
	case file.Kind == api.FileWriter:
		return m.writePipe(p, file.Pipe, b)
	case m.x.Look(file.Ino).Type == api.TypeDev:
		m.out = append(m.out, b...)
		return value(n)
	}
	wrote := m.x.Write(file.Ino, file.Off, b)
	if wrote < 0 || wrote == 0 && n > 0 {
		return no
	}
	file.Off += wrote
	return value(wrote)
}

func (m *machine) writePipe(p *plainProc, number int, b []byte) became {
	q := m.pipes[number]
	if len(b) == 0 {
		return value(0)
	}
	if !m.hasEnd(api.FileReader, number) {
		return no
	}
	rest := b[p.doing.Done:]
	room := min(len(rest), pipeSize-len(q.in))
	q.in = append(q.in, rest[:room]...)
	q.writes += room
	p.doing.Done += room
	if room > 0 {
		m.wake(api.ChanRead, number)
	}
	if p.doing.Done < len(b) {
		return sleepOn(api.ChanWrite, number)
	}
	return value(len(b))
}

// contents gives the bytes of an inode.
func contents(x *tree.Tree, ino int) []byte { return x.Read(ino, 0, 1<<20) }
