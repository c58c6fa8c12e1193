package hart

import (
	"hartix/api"
	"hartix/ram"
	"hartix/sv39"
)

// memory is the RAM as one program reaches it.
type memory struct {
	find  func(va uint64, a api.Access) (pa uint64, ok bool)
	load  func(pa uint64, n int) (uint64, bool)
	store func(pa uint64, n int, v uint64) bool
}

func throughTable(r *ram.Ram, root uint64) memory {
	find := func(va uint64, a api.Access) (uint64, bool) { return sv39.Translate(r, root, va, a) }
	return memory{find: find, load: r.Load, store: r.Store}
}

// causes are those of the traps of one kind of access.
type causes struct {
	align  uint64 // the address is no multiple of the number of bytes
	page   uint64 // no page lets it
	access uint64 // the bytes are not of held frames
}

func causesOf(a api.Access) causes {
	return [...]causes{
		api.Fetch: {api.CauseFetchAlign, api.CauseFetchPage, api.CauseFetchAccess},
		api.Load:  {api.CauseLoadAlign, api.CauseLoadPage, api.CauseLoadAccess},
		api.Store: {api.CauseStoreAlign, api.CauseStorePage, api.CauseStoreAccess},
	}[a]
}

// read gives the number of n bytes at va; a is Fetch or Load.
func (m memory) read(a api.Access, va uint64, n int) uint64 {
	v, ok := m.load(m.place(a, va, n), n)
	if !ok {
		giveUp(causesOf(a).access, va)
	}
	return v
}

// write puts the lowest n bytes of v to va.
func (m memory) write(va uint64, n int, v uint64) {
	if !m.store(m.place(api.Store, va, n), n, v) {
		giveUp(causesOf(api.Store).access, va)
	}
}

// place tells where in the RAM an access of n bytes at va goes.
func (m memory) place(a api.Access, va uint64, n int) uint64 {
	if va%uint64(n) != 0 {
		giveUp(causesOf(a).align, va)
	}
	pa, ok := m.find(va, a)
	if !ok {
		giveUp(causesOf(a).page, va)
	}
	return pa
}

// giveUp leaves the instruction from wherever it is; Step catches the trap.
func giveUp(cause, value uint64) { panic(trapFor(cause, value)) }
