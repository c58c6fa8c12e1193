package engine_test

// DOC.md's abstract machine: a machine without frames and page tables. Pages are lists of bytes with rights; the number of free frames is reckoned by DOC.md's formulas whenever it is asked for.

import (
	"slices"

	"hartix/api"
	"hartix/elf"
)

const (
	slots    = 64
	mostFds  = 16
	mostFile = 100
	mostPipe = 32
	pipeSize = 512
	lineSize = 128
	userTop  = 1<<38 - 3*pageSize

	mayRead, mayWrite, mayFetch, isUsers = 2, 4, 8, 16
)

type plainPage struct {
	data []byte
	perm uint64
}

type plainProc struct {
	slot, pid, parent, state int
	on                       api.Chan
	killed                   bool
	status                   int32
	regs                     api.Regs
	size                     uint64
	pages                    []plainPage
	fds                      [mostFds]int
	cwd                      int
	inCall                   bool
	doing                    api.Pending
}

type plainPipe struct {
	in            []byte
	reads, writes uint32
}

// plainMachine is the abstract machine.
type plainMachine struct {
	script      api.Script
	tree        plainTree
	procs       [slots]*plainProc
	files       [mostFile]*api.FileLook
	pipes       [mostPipe]*plainPipe
	ready, line []byte // the console's
	ticks       uint64
	next        int // the next pid
	out         []byte
	k           int
	on, last    int // on -1: nobody
	halt        api.Halt
	steps       map[int]int // by pid
	answered    variety     // how often each call has answered what
}

// nodesOf is DOC.md's nodes(p).
func nodesOf(p int) int {
	if p == 0 {
		return 3
	}
	return 3 + 1 + (p+511)/512
}

func worthOf(p int) int { return 1 + p + nodesOf(p) }

// free reckons how many frames are free.
func (m *plainMachine) free() int {
	n := m.script.Frames - 1
	for _, p := range m.procs {
		if p != nil {
			n -= worthOf(len(p.pages))
		}
	}
	for _, node := range m.tree {
		n -= node.blocks()
	}
	return n
}

func callFault(at int, errno api.Errno) error {
	return &api.Fault{Layer: "kernel", Err: &api.Fault{Layer: "call", At: at, Err: errno}}
}

// plainBoot is P16.1, P15.1 and P16.2, of a script whose ticks and inputs can be played.
func plainBoot(s api.Script) (*plainMachine, error) {
	m := &plainMachine{script: s, tree: newPlainTree(), next: 2, steps: map[int]int{}, answered: variety{}}
	terminal, _ := m.tree.make(m.free(), rootIno, "/console", api.TypeDev, 1, 0)
	for at, f := range s.Files {
		if errno := m.bootFile(f); errno != api.OK {
			return nil, callFault(at, errno)
		}
	}
	ino, errno := m.tree.find(rootIno, s.Init)
	if errno != api.OK {
		return nil, callFault(len(s.Files), errno)
	}
	if m.tree[ino].typ != api.TypeFile {
		return nil, callFault(len(s.Files), api.ErrCallInit)
	}
	if m.free() < 1 {
		return nil, callFault(len(s.Files), api.ErrCallRoom)
	}
	p := &plainProc{pid: 1, state: api.ProcRun, cwd: rootIno}
	if errno := p.begin(m.tree[ino].text, []string{s.Init}, m.free()-1); errno != api.OK {
		return nil, callFault(len(s.Files), errno)
	}
	for fd := range p.fds {
		if p.fds[fd] = -1; fd < 3 {
			p.fds[fd] = 0
		}
	}
	m.tree[rootIno].refs++
	m.tree[terminal].refs++
	m.files[0] = &api.FileLook{Kind: api.FileIno, Refs: 3, Readable: true, Writable: true, Ino: terminal}
	m.procs[0] = p
	return m, nil
}

func (m *plainMachine) bootFile(f api.BootFile) api.Errno {
	ino, errno := m.tree.make(m.free(), rootIno, f.Path, f.Type, f.Major, f.Minor)
	if errno != api.OK {
		return errno
	}
	if f.Type == api.TypeFile && m.tree[ino].write(m.free(), 0, f.Data) != len(f.Data) {
		return api.ErrCallRoom
	}
	return api.OK
}

// begin is chapter 14, with the registers of P15.11: the process has the new program's pages, unless it is refused.
func (p *plainProc) begin(file []byte, args []string, free int) api.Errno {
	program, err := elf.Read(file)
	if err != nil {
		return api.ErrExecFile
	}
	if len(args) > 32 {
		return api.ErrExecArgs
	}
	for _, arg := range args {
		if slices.Contains([]byte(arg), 0) {
			return api.ErrExecArg
		}
	}
	last := program.Segs[len(program.Segs)-1]
	e := int((last.Va + last.Mem + pageSize - 1) / pageSize)
	stack, sp := plainStack(uint64(e+2)*pageSize, args)
	if stack == nil {
		return api.ErrExecStack
	}
	if free < e+2+nodesOf(e+2) {
		return api.ErrExecRoom
	}
	p.pages = nil
	for k := range e {
		p.pages = append(p.pages, programPage(program, uint64(k)))
	}
	p.pages = append(p.pages, plainPage{make([]byte, pageSize), mayRead | mayWrite}, plainPage{stack, mayRead | mayWrite | isUsers})
	p.size = uint64(e+2) * pageSize
	p.regs = api.Regs{Pc: program.Entry}
	p.regs.X[2], p.regs.X[10], p.regs.X[11] = sp, uint64(len(args)), sp
	return api.OK
}

// plainStack gives the stack's page below that size, and where the arguments' addresses stand; nil, if they have no room.
func plainStack(size uint64, args []string) ([]byte, uint64) {
	all := make([]byte, 1<<16) // the lowest page of these 16 is the stack's, if all goes well
	top := len(all)
	var table []byte
	for _, arg := range args {
		top = (top - len(arg) - 1) &^ 15
		if top < len(all)-pageSize {
			return nil, 0
		}
		copy(all[top:], arg)
		at := size - uint64(len(all)-top)
		for k := range 8 {
			table = append(table, byte(at>>(8*k)))
		}
	}
	table = append(table, make([]byte, 8)...)
	top = (top - len(table)) &^ 15
	if top < len(all)-pageSize {
		return nil, 0
	}
	copy(all[top:], table)
	return all[len(all)-pageSize:], size - uint64(len(all)-top)
}

func programPage(program api.Elf, number uint64) plainPage {
	out := plainPage{data: make([]byte, pageSize)}
	for _, seg := range program.Segs {
		for k, b := range seg.Data {
			if at := seg.Va + uint64(k); at/pageSize == number {
				out.data[at%pageSize] = b
			}
		}
	}
	for _, seg := range program.Segs {
		if number*pageSize >= seg.Va+seg.Mem {
			continue
		}
		out.perm = isUsers
		for _, right := range [][2]uint64{{api.SegR, mayRead}, {api.SegW, mayWrite}, {api.SegX, mayFetch}} {
			if uint64(seg.Flags)&right[0] != 0 {
				out.perm |= right[1]
			}
		}
		break
	}
	return out
}

// The time, as DOC.md tells it.

// step goes on until one instruction has been done; true: the run has ended.
func (m *plainMachine) step() (api.Halt, bool) {
	for m.halt == (api.Halt{}) {
		if m.k == m.script.Budget {
			m.halt = api.Halt{Code: api.HaltBudget, Step: m.k}
			break
		}
		m.events()
		for m.on < 0 && m.halt == (api.Halt{}) && m.turn() {
		}
		if m.halt != (api.Halt{}) {
			break
		}
		if m.on >= 0 {
			m.instruction()
			return m.halt, m.halt != (api.Halt{})
		}
		next := m.nextEvent()
		if next < 0 {
			m.halt = api.Halt{Code: api.HaltIdle, Step: m.k}
			break
		}
		m.k = next
	}
	return m.halt, true
}

func (m *plainMachine) events() {
	for _, input := range m.script.Inputs {
		if input.At == m.k {
			for _, b := range input.Data {
				m.typed(b)
			}
		}
	}
	if !slices.Contains(m.script.Ticks, m.k) {
		return
	}
	m.ticks++
	for _, p := range m.procs {
		if p != nil && p.state == api.ProcSleep && p.on.Kind == api.ChanTime && p.doing.Due <= m.ticks {
			p.state, p.on = api.ProcRun, api.Chan{}
		}
	}
	m.on = -1
}

// nextEvent tells the first step above k and below the budget at which a tick or an input comes; -1: there is none.
func (m *plainMachine) nextEvent() int {
	next := -1
	note := func(at int) {
		if at > m.k && at < m.script.Budget && (next < 0 || at < next) {
			next = at
		}
	}
	for _, tick := range m.script.Ticks {
		note(tick)
	}
	for _, input := range m.script.Inputs {
		note(input.At)
	}
	return next
}

// turn gives one process its turn; false: none can run.
func (m *plainMachine) turn() bool {
	for i := 1; i <= slots; i++ {
		p := m.procs[(m.last+i)%slots]
		if p == nil || p.state != api.ProcRun {
			continue
		}
		m.last = p.slot
		switch {
		case p.killed:
			m.end(p, -1)
		case !p.inCall:
			m.on = p.slot
		default:
			m.become(p, m.row(p))
			if p.state == api.ProcRun {
				m.on = p.slot
			}
		}
		return true
	}
	return false
}

func (m *plainMachine) instruction() {
	p := m.procs[m.on]
	m.steps[p.pid]++
	switch p.step() {
	case insnCall:
		m.call(p)
	case insnWrong:
		m.end(p, -1)
	}
	if m.halt != (api.Halt{}) {
		return
	}
	if p.state != api.ProcRun {
		m.on = -1
	}
	m.k++
}

// end is P15.6; of the first process the run's end.
func (m *plainMachine) end(p *plainProc, status int32) {
	for fd, f := range p.fds {
		if f >= 0 {
			p.fds[fd] = -1
			m.letGo(f)
		}
	}
	m.tree.drop(p.cwd)
	p.cwd, p.inCall, p.doing = 0, false, api.Pending{}
	p.state, p.on, p.status = api.ProcZombie, api.Chan{}, status
	for _, child := range m.procs {
		if p.slot != 0 && child != nil && child.parent == p.slot {
			child.parent = 0
			if child.state == api.ProcZombie {
				m.wake(api.ChanChild, 0)
			}
		}
	}
	m.wake(api.ChanChild, p.parent)
	if p.slot == 0 {
		m.halt, m.on = api.Halt{Code: api.HaltExit, Status: status, Step: m.k}, -1
	}
}

func (m *plainMachine) wake(kind, n int) {
	for _, p := range m.procs {
		if p != nil && p.state == api.ProcSleep && p.on == (api.Chan{Kind: kind, N: n}) {
			p.state, p.on = api.ProcRun, api.Chan{}
		}
	}
}

// typed is P11.2 and P15.7.
func (m *plainMachine) typed(b byte) {
	rub := []byte{8, 32, 8}
	full := len(m.ready)+len(m.line) == lineSize
	switch {
	case b == 0x15:
		for range m.line {
			m.out = append(m.out, rub...)
		}
		m.line = nil
	case b == 8 || b == 0x7f:
		if len(m.line) > 0 {
			m.line = m.line[:len(m.line)-1]
			m.out = append(m.out, rub...)
		}
	case b == 0 || full:
	default:
		if b == 13 {
			b = 10
		}
		m.line = append(m.line, b)
		if b != 4 {
			m.out = append(m.out, b)
		}
		if b == 10 || b == 4 || len(m.ready)+len(m.line) == lineSize {
			m.ready = append(m.ready, m.line...)
			m.line = nil
			m.wake(api.ChanConsole, 0)
		}
	}
}

// told is the report of a run that has ended.
func (m *plainMachine) told() api.Report {
	r := api.Report{Halt: m.halt, Output: m.out}
	for pid, n := range m.steps {
		r.Steps = append(r.Steps, api.PidSteps{Pid: pid, Steps: n})
	}
	slices.SortFunc(r.Steps, func(a, b api.PidSteps) int { return a.Pid - b.Pid })
	return r
}
