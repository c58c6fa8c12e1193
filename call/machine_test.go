package call_test

// DOC.md's abstract machine: processes whose pages are lists of bytes, open files and pipes in maps, frames that are only counted. The tree and the console under it are those of the layers below, each beside the one that the tested system has.

import (
	"bytes"

	"hartix/api"
	"hartix/console"
	"hartix/elf"
	"hartix/ram"
	"hartix/tree"
)

const (
	page     = 4096
	slots    = 64
	mostFds  = 16
	mostFile = 100
	mostPipe = 32
	pipeSize = 512
	userTop  = 1<<38 - 3*page
	maxPid   = 1<<31 - 1
	root     = 1

	mayRead, mayWrite, mayFetch, isUsers = 2, 4, 8, 16
)

type plainPage struct {
	data []byte
	perm uint64
}

type plainProc struct {
	slot, pid, parent, state int
	on                       api.Chan
	killed                   bool
	status                   int32
	regs                     api.Regs
	size                     uint64
	pages                    []plainPage
	frames                   []uint64 // as many as it is worth
	fds                      map[int]int
	cwd                      int
	doing                    *api.Pending
}

type plainPipe struct {
	in            []byte
	reads, writes int
}

type machine struct {
	r     *ram.Ram
	x     *tree.Tree
	c     *console.Console
	procs [slots]*plainProc
	files map[int]*api.FileLook
	pipes map[int]*plainPipe
	ticks uint64
	next  int // the next pid
	out   []byte
}

// nodesOf is DOC.md's nodes(p).
func nodesOf(p int) int {
	if p == 0 {
		return 3
	}
	return 3 + 1 + (p+511)/512
}

func worthOf(p int) int { return 1 + p + nodesOf(p) }

// settle takes or gives back frames, until a process has as many as it is worth with the pages that it has now; nil: no process any more.
func (m *machine) settle(p *plainProc, worth int) {
	for len(p.frames) > worth {
		m.r.Free(p.frames[0])
		p.frames = p.frames[1:]
	}
	for len(p.frames) < worth {
		pa, ok := m.r.Alloc()
		if !ok {
			panic("the machine has too few frames")
		}
		p.frames = append(p.frames, pa)
	}
}

// bootPlain is P15.1; nil with a place and a reason, if it is refused.
func bootPlain(r *ram.Ram, files []api.BootFile, first string) (*machine, int, api.Errno) {
	if len(files) > 64 {
		return nil, 64, api.ErrCallBoot
	}
	if r.Count() == 0 {
		return nil, -1, api.ErrCallRoom
	}
	x, errno := tree.New(r)
	if errno != api.OK {
		panic(errno)
	}
	m := &machine{r: r, x: x, c: console.New(), files: map[int]*api.FileLook{}, pipes: map[int]*plainPipe{}, next: 2}
	terminal, _ := x.Make(root, "/console", api.TypeDev, 1, 0)
	for at, f := range files {
		if errno := m.bootFile(f); errno != api.OK {
			return nil, at, errno
		}
	}
	return m.bootFirst(first, len(files), terminal)
}

func (m *machine) bootFile(f api.BootFile) api.Errno {
	if f.Type != api.TypeDir && f.Type != api.TypeFile && f.Type != api.TypeDev {
		return api.ErrCallBoot
	}
	if len(f.Data) > 0 && f.Type != api.TypeFile {
		return api.ErrCallBoot
	}
	if (f.Major != 0 || f.Minor != 0) && f.Type != api.TypeDev {
		return api.ErrCallBoot
	}
	ino, errno := m.x.Make(root, f.Path, f.Type, f.Major, f.Minor)
	if errno != api.OK {
		return errno
	}
	if f.Type == api.TypeFile && m.x.Write(ino, 0, f.Data) != len(f.Data) {
		return api.ErrCallRoom
	}
	return api.OK
}

func (m *machine) bootFirst(first string, at, terminal int) (*machine, int, api.Errno) {
	ino, errno := m.x.Find(root, first)
	if errno != api.OK {
		return nil, at, errno
	}
	if m.x.Look(ino).Type != api.TypeFile || m.x.Look(ino).Size > 1<<18 {
		return nil, at, api.ErrCallInit
	}
	if m.r.Count() == 0 {
		return nil, at, api.ErrCallRoom
	}
	p := &plainProc{pid: 1, state: api.ProcRun, fds: map[int]int{0: 0, 1: 0, 2: 0}, cwd: root}
	m.settle(p, 1)
	if errno := m.load(p, m.x.Read(ino, 0, 1<<18), []string{first}); errno != api.OK {
		return nil, at, errno
	}
	m.settle(p, worthOf(len(p.pages)))
	m.x.Hold(root)
	m.x.Hold(terminal)
	m.files[0] = &api.FileLook{Kind: api.FileIno, Refs: 3, Readable: true, Writable: true, Ino: terminal}
	m.procs[0] = p
	return m, 0, api.OK
}

// load is layer 14, with the registers of P15.11: the process has the new program's pages, unless it is refused.
func (m *machine) load(p *plainProc, file []byte, args []string) api.Errno {
	program, err := elf.Read(file)
	if err != nil {
		return api.ErrExecFile
	}
	if len(args) > 32 {
		return api.ErrExecArgs
	}
	last := program.Segs[len(program.Segs)-1]
	e := int((last.Va + last.Mem + page - 1) / page)
	stack, sp, ok := plainStack(uint64(e+2)*page, args)
	if !ok {
		return api.ErrExecStack
	}
	if m.r.Count() < e+2+nodesOf(e+2) {
		return api.ErrExecRoom
	}
	p.pages = nil
	for k := range e {
		p.pages = append(p.pages, plainProgramPage(program, k))
	}
	p.pages = append(p.pages, plainPage{make([]byte, page), mayRead | mayWrite}, plainPage{stack, mayRead | mayWrite | isUsers})
	p.size = uint64(e+2) * page
	p.regs = api.Regs{Pc: program.Entry}
	p.regs.X[2], p.regs.X[10], p.regs.X[11] = sp, uint64(len(args)), sp
	return api.OK
}

// plainStack gives the stack's page below that size, and the place where the arguments' addresses stand.
func plainStack(size uint64, args []string) ([]byte, uint64, bool) {
	stack := make([]byte, page)
	s, below := int64(size), int64(size)-page
	var addresses []byte
	for _, arg := range append(args, "") {
		if len(addresses) == 8*len(args) { // behind the last one: the addresses
			addresses = append(addresses, make([]byte, 8)...)
			s = (s - int64(len(addresses))) / 16 * 16
			if s < below {
				return nil, 0, false
			}
			copy(stack[s-below:], addresses)
			break
		}
		s = (s - int64(len(arg)) - 1) / 16 * 16
		if s < below {
			return nil, 0, false
		}
		copy(stack[s-below:], arg)
		for k := range 8 {
			addresses = append(addresses, byte(uint64(s)>>(8*k)))
		}
	}
	return stack, uint64(s), true
}

// plainProgramPage gives a page of the program.
func plainProgramPage(program api.Elf, k int) plainPage {
	out := plainPage{data: make([]byte, page)}
	for _, seg := range program.Segs {
		for i, b := range seg.Data {
			if at := seg.Va + uint64(i); at/page == uint64(k) {
				out.data[at%page] = b
			}
		}
	}
	for _, seg := range program.Segs {
		if uint64(k)*page < seg.Va+seg.Mem {
			for flag, right := range map[uint32]uint64{api.SegR: mayRead, api.SegW: mayWrite, api.SegX: mayFetch} {
				if seg.Flags&flag != 0 {
					out.perm |= right
				}
			}
			break
		}
	}
	out.perm |= isUsers
	return out
}

// reach gives the pieces of pages in which n bytes from va on lie, if the user has that right there.
func (p *plainProc) reach(va uint64, n int, right uint64) ([][]byte, bool) {
	var pieces [][]byte
	if n < 0 {
		return nil, false
	}
	for n > 0 {
		if va/page >= uint64(len(p.pages)) {
			return nil, false
		}
		at := p.pages[va/page]
		if at.perm&isUsers == 0 || at.perm&right == 0 {
			return nil, false
		}
		piece := at.data[va%page:]
		if len(piece) > n {
			piece = piece[:n]
		}
		pieces = append(pieces, piece)
		va += uint64(len(piece))
		n -= len(piece)
	}
	return pieces, true
}

func (p *plainProc) in(va uint64, n int) ([]byte, bool) {
	pieces, ok := p.reach(va, n, mayRead)
	return bytes.Join(pieces, nil), ok
}

func (p *plainProc) canOut(va uint64, n int) bool {
	_, ok := p.reach(va, n, mayWrite)
	return ok
}

func (p *plainProc) outBytes(va uint64, b []byte) bool {
	pieces, ok := p.reach(va, len(b), mayWrite)
	for _, piece := range pieces {
		b = b[copy(piece, b):]
	}
	return ok
}

func (p *plainProc) str(va uint64, most int) (string, bool) {
	var text []byte
	for k := range most {
		b, ok := p.in(va+uint64(k), 1)
		if !ok {
			return "", false
		}
		if b[0] == 0 {
			return string(text), true
		}
		text = append(text, b[0])
	}
	return "", false
}

// least gives the least number that a map does not have.
func least[T any](taken map[int]T) int {
	for n := 0; ; n++ {
		if _, ok := taken[n]; !ok {
			return n
		}
	}
}

func (m *machine) wake(kind, n int) {
	for _, p := range m.procs {
		if p != nil && p.state == api.ProcSleep && p.on == (api.Chan{Kind: kind, N: n}) {
			p.state, p.on = api.ProcRun, api.Chan{}
		}
	}
}

// hasEnd tells whether there is an open file of that kind of that pipe.
func (m *machine) hasEnd(kind, pipe int) bool {
	for _, f := range m.files {
		if f.Kind == kind && f.Pipe == pipe {
			return true
		}
	}
	return false
}

// letGo is P15.13.
func (m *machine) letGo(f int) {
	file := m.files[f]
	file.Refs--
	if file.Refs > 0 {
		return
	}
	delete(m.files, f)
	switch {
	case file.Kind == api.FileIno:
		m.x.Drop(file.Ino)
	case !m.hasEnd(api.FileReader, file.Pipe) && !m.hasEnd(api.FileWriter, file.Pipe):
		delete(m.pipes, file.Pipe)
	case file.Kind == api.FileReader:
		m.wake(api.ChanWrite, file.Pipe)
	default:
		m.wake(api.ChanRead, file.Pipe)
	}
}

// end is P15.6.
func (m *machine) end(slot int, status int32) {
	p := m.at(slot)
	if p == nil || p.state == api.ProcZombie {
		return
	}
	for fd := range mostFds {
		if f, ok := p.fds[fd]; ok {
			delete(p.fds, fd)
			m.letGo(f)
		}
	}
	m.x.Drop(p.cwd)
	p.cwd, p.doing = 0, nil
	p.state, p.on, p.status = api.ProcZombie, api.Chan{}, status
	for _, child := range m.procs {
		if slot != 0 && child != nil && child.parent == slot {
			child.parent = 0
			if child.state == api.ProcZombie {
				m.wake(api.ChanChild, 0)
			}
		}
	}
	m.wake(api.ChanChild, p.parent)
}

func (m *machine) at(slot int) *plainProc {
	if slot < 0 || slot >= slots {
		return nil
	}
	return m.procs[slot]
}

func (m *machine) tick() {
	m.ticks++
	for _, p := range m.procs {
		if p != nil && p.state == api.ProcSleep && p.on.Kind == api.ChanTime && p.doing.Due <= m.ticks {
			p.state, p.on = api.ProcRun, api.Chan{}
		}
	}
}

func (m *machine) typed(b byte) {
	echo, ready := m.c.Type(b)
	m.out = append(m.out, echo...)
	if ready {
		m.wake(api.ChanConsole, 0)
	}
}

func (m *machine) pick(last int) (int, bool) {
	if last < 0 || last > 63 {
		last = 63
	}
	for k := 1; k <= slots; k++ {
		if p := m.procs[(last+k)%slots]; p != nil && p.state == api.ProcRun {
			return p.slot, true
		}
	}
	return 0, false
}
