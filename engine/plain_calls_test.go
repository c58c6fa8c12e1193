package engine_test

// The abstract machine's calls (chapter 15).

import (
	"hartix/api"
)

// became is what becomes of a call.
type became struct {
	how   int
	value int
	on    api.Chan
}

const (
	answers = iota + 1 // with a value
	sleeps             // on a channel
	ends               // with a status
	anew               // another program
)

func value(v int) became { return became{how: answers, value: v} }

func sleepOn(kind, n int) became { return became{how: sleeps, on: api.Chan{Kind: kind, N: n}} }

func no() became { return value(-1) }

// call is P15.4, with what DOC.md's Time says of a process that was killed in it.
func (m *plainMachine) call(p *plainProc) {
	p.regs.Pc += 4
	x := p.regs.X
	p.inCall, p.doing = true, api.Pending{Num: int(x[17]), Args: [3]uint64{x[10], x[11], x[12]}}
	m.become(p, m.row(p))
	if p.state == api.ProcRun && p.killed {
		m.end(p, -1)
	}
}

func (m *plainMachine) become(p *plainProc, b became) {
	m.answered.noteCall(p.doing.Num, b)
	switch b.how {
	case answers:
		p.regs.X[10] = uint64(b.value)
	case sleeps:
		p.state, p.on = api.ProcSleep, b.on
		return
	case ends:
		m.end(p, int32(b.value))
	}
	p.inCall, p.doing = false, api.Pending{}
}

// row tells what becomes of the call in whose midst a process is, and does it.
func (m *plainMachine) row(p *plainProc) became {
	a := p.doing.Args
	int0, int1, int2 := int(int32(a[0])), int(int32(a[1])), int(int32(a[2]))
	switch uint64(p.doing.Num) {
	case 1:
		return m.fork(p)
	case 2:
		return became{how: ends, value: int0}
	case 3:
		return m.wait(p, a[0])
	case 4:
		return m.pipe(p, a[0])
	case 5:
		return m.read(p, int0, a[1], int2)
	case 6:
		return m.kill(int0)
	case 7:
		return m.exec(p, a[0], a[1])
	case 8:
		return m.fstat(p, int0, a[1])
	case 9, 17, 18, 19, 20:
		return m.named(p, a)
	case 10:
		return m.dup(p, int0)
	case 11:
		return value(p.pid)
	case 12:
		return m.sbrk(p, int0)
	case 13:
		return m.sleep(p, int0)
	case 14:
		return value(int(m.ticks))
	case 15:
		return m.open(p, a[0], int1)
	case 16:
		return m.write(p, int0, a[1], int2)
	case 21:
		return m.close(p, int0)
	}
	return no()
}

// bytesAt gives the places of n bytes from va on, if the user has that right to each.
func (p *plainProc) bytesAt(va uint64, n int, right uint64) ([]*byte, bool) {
	var places []*byte
	for k := range n {
		b, ok := p.reach(va+uint64(k), 1, right)
		if !ok || va+uint64(k) < va {
			return nil, false
		}
		places = append(places, &b[0])
	}
	return places, true
}

func (p *plainProc) in(va uint64, n int) ([]byte, bool) {
	places, ok := p.bytesAt(va, n, mayRead)
	var b []byte
	for _, place := range places {
		b = append(b, *place)
	}
	return b, ok
}

func (p *plainProc) put(va uint64, b []byte) bool {
	places, ok := p.bytesAt(va, len(b), mayWrite)
	for k, place := range places {
		*place = b[k]
	}
	return ok
}

func (p *plainProc) text(va uint64, most int) (string, bool) {
	var text []byte
	for k := range most {
		b, ok := p.in(va+uint64(k), 1)
		if !ok {
			return "", false
		}
		if b[0] == 0 {
			return string(text), true
		}
		text = append(text, b[0])
	}
	return "", false
}

func laid(v uint64, n int) []byte {
	b := make([]byte, n)
	for k := range b {
		b[k] = byte(v >> (8 * k))
	}
	return b
}

func (m *plainMachine) fork(p *plainProc) became {
	slot := 0
	for slot < slots && m.procs[slot] != nil {
		slot++
	}
	if slot == slots || m.free() < worthOf(len(p.pages)) {
		return no()
	}
	child := *p
	child.slot, child.pid, child.parent = slot, m.next, p.slot
	child.inCall, child.doing = false, api.Pending{}
	child.regs.X[10] = 0
	child.pages = nil
	for _, from := range p.pages {
		child.pages = append(child.pages, plainPage{append([]byte(nil), from.data...), from.perm})
	}
	for _, f := range p.fds {
		if f >= 0 {
			m.files[f].Refs++
		}
	}
	m.tree[p.cwd].refs++
	m.next++
	m.procs[slot] = &child
	return value(child.pid)
}

func (m *plainMachine) wait(p *plainProc, at uint64) became {
	children := false
	for slot, child := range m.procs {
		if child == nil || child == p || child.parent != p.slot {
			continue
		}
		children = true
		if child.state != api.ProcZombie {
			continue
		}
		if at != 0 && !p.put(at, laid(uint64(child.status), 4)) {
			return no()
		}
		m.procs[slot] = nil
		return value(child.pid)
	}
	if !children {
		return no()
	}
	return sleepOn(api.ChanChild, p.slot)
}

func (m *plainMachine) kill(pid int) became {
	for _, p := range m.procs {
		if p == nil || p.pid != pid {
			continue
		}
		if p.state != api.ProcZombie {
			p.killed, p.state, p.on = true, api.ProcRun, api.Chan{}
		}
		return value(0)
	}
	return no()
}

func (m *plainMachine) sleep(p *plainProc, n int) became {
	switch {
	case n < 1:
		return value(0)
	case p.doing.Due == 0:
		p.doing.Due = m.ticks + uint64(n)
	case p.doing.Due <= m.ticks:
		return value(0)
	}
	return sleepOn(api.ChanTime, 0)
}

func (m *plainMachine) sbrk(p *plainProc, n int) became {
	s, had := int(p.size), len(p.pages)
	to := s + n
	need := (to + pageSize - 1) / pageSize
	switch {
	case to < 0, to > userTop, n > 0 && need-had+nodesOf(need)-nodesOf(had) > m.free():
		return no()
	case n > 0 && s%pageSize != 0:
		clear(p.pages[had-1].data[s%pageSize:])
	}
	for len(p.pages) < need {
		p.pages = append(p.pages, plainPage{make([]byte, pageSize), mayRead | mayWrite | isUsers})
	}
	p.pages, p.size = p.pages[:need], uint64(to)
	return value(s)
}

// exec is P15.11.
func (m *plainMachine) exec(p *plainProc, at, argv uint64) became {
	path, ok := p.text(at, 128)
	if !ok {
		return no()
	}
	var args []string
	for i := 0; ; i++ {
		b, ok := p.in(argv+8*uint64(i), 8)
		if !ok {
			return no()
		}
		q := lowFirst(b)
		if q == 0 {
			break
		}
		arg, ok := p.text(q, pageSize)
		if !ok || i == 32 {
			return no()
		}
		args = append(args, arg)
	}
	ino, errno := m.tree.find(p.cwd, path)
	if errno != api.OK || m.tree[ino].typ != api.TypeFile {
		return no()
	}
	if p.begin(m.tree[ino].text, args, m.free()) != api.OK {
		return no()
	}
	return became{how: anew}
}

// named has the calls that begin with a path and end with yes or no.
func (m *plainMachine) named(p *plainProc, a [3]uint64) became {
	path, ok := p.text(a[0], 128)
	if !ok {
		return no()
	}
	errno := api.ErrArg
	switch p.doing.Num {
	case 9:
		var ino int
		if ino, errno = m.tree.find(p.cwd, path); errno == api.OK {
			if m.tree[ino].typ != api.TypeDir {
				return no()
			}
			m.tree[ino].refs++
			m.tree.drop(p.cwd)
			p.cwd = ino
		}
	case 17:
		_, errno = m.tree.make(m.free(), p.cwd, path, api.TypeDev, int16(a[1]), int16(a[2]))
	case 18:
		errno = m.tree.unlink(p.cwd, path)
	case 19:
		name, ok := p.text(a[1], 128)
		ino, found := m.tree.find(p.cwd, path)
		if ok && found == api.OK {
			errno = m.tree.link(m.free(), ino, p.cwd, name)
		}
	case 20:
		_, errno = m.tree.make(m.free(), p.cwd, path, api.TypeDir, 0, 0)
	}
	if errno != api.OK {
		return no()
	}
	return value(0)
}

// fileOf gives the open file of a descriptor; nil, if there is none.
func (m *plainMachine) fileOf(p *plainProc, fd int) *api.FileLook {
	if fd < 0 || fd >= mostFds || p.fds[fd] < 0 {
		return nil
	}
	return m.files[p.fds[fd]]
}

// freeFds and freeFiles give the free numbers, rising.
func (p *plainProc) freeFds() []int {
	var all []int
	for fd, f := range p.fds {
		if f < 0 {
			all = append(all, fd)
		}
	}
	return all
}

func (m *plainMachine) freeFiles() []int {
	var all []int
	for f, file := range m.files {
		if file == nil {
			all = append(all, f)
		}
	}
	return all
}

func (m *plainMachine) pipe(p *plainProc, at uint64) became {
	n := 0
	for n < mostPipe && m.pipes[n] != nil {
		n++
	}
	fds, files := p.freeFds(), m.freeFiles()
	if len(fds) < 2 || len(files) < 2 || n == mostPipe || !p.put(at, append(laid(uint64(fds[0]), 4), laid(uint64(fds[1]), 4)...)) {
		return no()
	}
	m.pipes[n] = &plainPipe{}
	m.files[files[0]] = &api.FileLook{Num: files[0], Kind: api.FileReader, Refs: 1, Readable: true, Pipe: n}
	m.files[files[1]] = &api.FileLook{Num: files[1], Kind: api.FileWriter, Refs: 1, Writable: true, Pipe: n}
	p.fds[fds[0]], p.fds[fds[1]] = files[0], files[1]
	return value(0)
}

func (m *plainMachine) dup(p *plainProc, fd int) became {
	file, fds := m.fileOf(p, fd), p.freeFds()
	if file == nil || len(fds) == 0 {
		return no()
	}
	p.fds[fds[0]] = file.Num
	file.Refs++
	return value(fds[0])
}

func (m *plainMachine) close(p *plainProc, fd int) became {
	file := m.fileOf(p, fd)
	if file == nil {
		return no()
	}
	p.fds[fd] = -1
	m.letGo(file.Num)
	return value(0)
}

// hasEnd tells whether there is an open file of that kind of that pipe.
func (m *plainMachine) hasEnd(kind, pipe int) bool {
	for _, f := range m.files {
		if f != nil && f.Kind == kind && f.Pipe == pipe {
			return true
		}
	}
	return false
}

// letGo is P15.13.
func (m *plainMachine) letGo(f int) {
	file := m.files[f]
	if file.Refs--; file.Refs > 0 {
		return
	}
	m.files[f] = nil
	switch {
	case file.Kind == api.FileIno:
		m.tree.drop(file.Ino)
	case !m.hasEnd(api.FileReader, file.Pipe) && !m.hasEnd(api.FileWriter, file.Pipe):
		m.pipes[file.Pipe] = nil
	case file.Kind == api.FileReader:
		m.wake(api.ChanWrite, file.Pipe)
	default:
		m.wake(api.ChanRead, file.Pipe)
	}
}

func (m *plainMachine) fstat(p *plainProc, fd int, at uint64) became {
	file := m.fileOf(p, fd)
	if file == nil || file.Kind != api.FileIno {
		return no()
	}
	node := m.tree[file.Ino]
	b := append(laid(1, 4), laid(uint64(file.Ino), 4)...)
	b = append(b, laid(uint64(node.typ), 2)...)
	b = append(b, laid(uint64(m.tree.links(file.Ino)), 2)...)
	b = append(b, 0, 0, 0, 0)
	if !p.put(at, append(b, laid(uint64(node.size()), 8)...)) {
		return no()
	}
	return value(0)
}

// open is P15.12.
func (m *plainMachine) open(p *plainProc, at uint64, mode int) became {
	path, ok := p.text(at, 128)
	fds, files := p.freeFds(), m.freeFiles()
	if !ok || len(fds) == 0 || len(files) == 0 {
		return no()
	}
	ino, errno := m.tree.find(p.cwd, path)
	creates := mode&0x200 != 0
	if errno != api.OK && creates {
		ino, errno = m.tree.make(m.free(), p.cwd, path, api.TypeFile, 0, 0)
	}
	if errno != api.OK {
		return no()
	}
	node := m.tree[ino]
	switch {
	case node.typ == api.TypeDir && (creates || mode != 0):
		return no()
	case node.typ == api.TypeDev && node.major != 1:
		return no()
	case node.typ == api.TypeFile && mode&0x400 != 0:
		node.text = nil
	}
	node.refs++
	m.files[files[0]] = &api.FileLook{Num: files[0], Kind: api.FileIno, Refs: 1, Ino: ino, Readable: mode&1 == 0, Writable: mode&3 != 0}
	p.fds[fds[0]] = files[0]
	return value(fds[0])
}

// read is P15.10, of reads.
func (m *plainMachine) read(p *plainProc, fd int, at uint64, n int) became {
	file := m.fileOf(p, fd)
	if file == nil || n < 0 || !file.Readable {
		return no()
	}
	switch {
	case file.Kind == api.FileReader:
		return m.readPipe(p, file.Pipe, at, n)
	case m.tree[file.Ino].typ == api.TypeDev:
		return m.readConsole(p, at, n)
	}
	b := m.tree[file.Ino].bytes()
	b = b[min(file.Off, len(b)):]
	b = b[:min(n, len(b))]
	if !p.put(at, b) {
		return no()
	}
	file.Off += len(b)
	return value(len(b))
}

// readConsole is P11.4 too.
func (m *plainMachine) readConsole(p *plainProc, at uint64, n int) became {
	if n == 0 {
		return value(0)
	}
	if len(m.ready) == 0 {
		return sleepOn(api.ChanConsole, 0)
	}
	if m.ready[0] == 4 {
		m.ready = m.ready[1:]
		return value(0)
	}
	var b []byte
	for _, c := range m.ready {
		if len(b) == n || c == 4 {
			break
		}
		if b = append(b, c); c == 10 {
			break
		}
	}
	if !p.put(at, b) {
		return no()
	}
	m.ready = m.ready[len(b):]
	return value(len(b))
}

func (m *plainMachine) readPipe(p *plainProc, number int, at uint64, n int) became {
	q := m.pipes[number]
	switch {
	case n == 0:
		return value(0)
	case len(q.in) == 0 && m.hasEnd(api.FileWriter, number):
		return sleepOn(api.ChanRead, number)
	}
	n = min(n, len(q.in))
	if !p.put(at, q.in[:n]) {
		return no()
	}
	q.in = q.in[n:]
	q.reads += uint32(n)
	if n > 0 {
		m.wake(api.ChanWrite, number)
	}
	return value(n)
}

// write is P15.10, of writes.
func (m *plainMachine) write(p *plainProc, fd int, at uint64, n int) became {
	file := m.fileOf(p, fd)
	if file == nil || n < 0 || !file.Writable {
		return no()
	}
	b, ok := p.in(at, n)
	if !ok {
		return no()
	}
	switch {
	case file.Kind == api.FileWriter:
		return m.writePipe(p, file.Pipe, b)
	case m.tree[file.Ino].typ == api.TypeDev:
		m.out = append(m.out, b...)
		return value(n)
	}
	wrote := m.tree[file.Ino].write(m.free(), file.Off, b)
	if wrote < 0 || wrote == 0 && n > 0 {
		return no()
	}
	file.Off += wrote
	return value(wrote)
}

func (m *plainMachine) writePipe(p *plainProc, number int, b []byte) became {
	q := m.pipes[number]
	switch {
	case len(b) == 0:
		return value(0)
	case !m.hasEnd(api.FileReader, number):
		return no()
	}
	rest := b[p.doing.Done:]
	room := min(len(rest), pipeSize-len(q.in))
	q.in = append(q.in, rest[:room]...)
	q.writes += uint32(room)
	p.doing.Done += room
	if room > 0 {
		m.wake(api.ChanRead, number)
	}
	if p.doing.Done < len(b) {
		return sleepOn(api.ChanWrite, number)
	}
	return value(len(b))
}
