package exec_test

// What the chapter says, read a second time: each byte of a space is asked for by its address, each page for its rights, and the stack is laid byte by byte, so that the tests do not lean on the code they test.

import (
	"bytes"
	"strings"

	"hartix/api"
	"hartix/elf"
	"hartix/ram"
	"hartix/space"
)

const (
	page  = 4096
	first = 0x80000000 // the first frame

	mayRead, mayWrite, mayFetch, isUsers = 2, 4, 8, 16
	accessed, dirty, valid               = 64, 128, 1

	fetches, writes, reads = 1, 2, 4 // a segment's flags
)

// plain is what a space must be. Its pages are not listed: there may be 2^18.
type plain struct {
	program api.Elf
	e       uint64          // how many pages the program has
	laid    map[uint64]byte // the bytes of the arguments, and of their addresses, that are not 0
	start   api.Start
}

// endOf is the end of a program's last segment in pages.
func endOf(program api.Elf) uint64 {
	last := program.Segs[len(program.Segs)-1]
	end := last.Va + last.Mem
	if end%page == 0 {
		return end / page
	}
	return end/page + 1
}

// wantStack lays arguments from the size down; false, if they have no room.
func wantStack(e uint64, args []string) (laid map[uint64]byte, s int64, room bool) {
	laid = map[uint64]byte{}
	s = int64(e+2) * page
	room = true
	down := func(n int) {
		s -= int64(n)
		for s%16 != 0 {
			s--
		}
		room = room && s >= int64(e+1)*page
	}
	var addresses []int64
	for _, arg := range args {
		down(len(arg) + 1)
		addresses = append(addresses, s)
		if !room {
			return nil, 0, false
		}
		for k := range len(arg) {
			laid[uint64(s)+uint64(k)] = arg[k]
		}
	}
	down(8 * (len(args) + 1))
	if !room {
		return nil, 0, false
	}
	for k, address := range addresses {
		for i := range 8 {
			laid[uint64(s)+uint64(8*k+i)] = byte(address / (1 << (8 * i)) % 256)
		}
	}
	return laid, s, true
}

// wantPlain is P14.1 and the refusals of P14.2.
func wantPlain(file []byte, args []string) (*plain, api.Errno) {
	program, err := elf.Read(file)
	if err != nil {
		return nil, api.ErrExecFile
	}
	if len(args) > 32 {
		return nil, api.ErrExecArgs
	}
	if strings.Contains(strings.Join(args, ""), "\x00") {
		return nil, api.ErrExecArg
	}
	e := endOf(program)
	laid, s, room := wantStack(e, args)
	if !room {
		return nil, api.ErrExecStack
	}
	return &plain{program, e, laid, api.Start{Entry: program.Entry, Sp: uint64(s), Argv: uint64(s)}}, api.OK
}

func (m *plain) pages() int { return int(m.e) + 2 }

func (m *plain) size() uint64 { return (m.e + 2) * page }

// nodesOf is nodes(p) of DOC.md.
func nodesOf(pages int) int {
	if pages == 0 {
		return 3
	}
	return 3 + 1 + (pages+511)/512
}

// demand is P14.2's number.
func (m *plain) demand() int { return m.pages() + nodesOf(m.pages()) }

// segment is whose rights a page of the program has.
func (m *plain) segment(k uint64) api.Seg {
	for _, seg := range m.program.Segs {
		if seg.Va/page <= k && k <= (seg.Va+seg.Mem-1)/page {
			return seg
		}
	}
	for _, seg := range m.program.Segs {
		if seg.Va/page > k {
			return seg
		}
	}
	panic("a page behind the program")
}

// rights tells what a page must have.
func (m *plain) rights(k uint64) uint64 {
	switch k {
	case m.e:
		return mayRead | mayWrite
	case m.e + 1:
		return mayRead | mayWrite | isUsers
	}
	rights := uint64(isUsers)
	for flag, right := range map[uint32]uint64{reads: mayRead, writes: mayWrite, fetches: mayFetch} {
		if m.segment(k).Flags&flag != 0 {
			rights |= right
		}
	}
	return rights
}

// byteAt tells the byte that must stand at an address.
func (m *plain) byteAt(address uint64) byte {
	for _, seg := range m.program.Segs {
		if address >= seg.Va && address-seg.Va < uint64(len(seg.Data)) {
			return seg.Data[address-seg.Va]
		}
	}
	return m.laid[address]
}

func (m *plain) bytesOf(k uint64) []byte {
	var all bytes.Buffer
	for at := range uint64(page) {
		all.WriteByte(m.byteAt(k*page + at))
	}
	return all.Bytes()
}

// wantDemand is P14.2.
func wantDemand(file []byte, args []string) (int, api.Errno) {
	m, errno := wantPlain(file, args)
	if errno != api.OK {
		return 0, errno
	}
	return m.demand(), api.OK
}

// wantLoad is P14.3. What space.New refuses is asked of a memory that is alike.
func wantLoad(r *ram.Ram, file []byte, args []string, trapframe, tramp uint64) (*plain, api.Errno) {
	m, errno := wantPlain(file, args)
	switch {
	case errno != api.OK:
		return nil, errno
	case r.Frames() == 0:
		return nil, api.ErrZero
	case r.Count() < m.demand():
		return nil, api.ErrExecRoom
	}
	twin, err := ram.FromImage(r.Image())
	if err != nil {
		panic(err)
	}
	if _, errno := space.New(twin, trapframe, tramp); errno != api.OK {
		return nil, errno
	}
	return m, api.OK
}
