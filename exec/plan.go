package exec

import (
	"slices"
	"strings"

	"hartix/api"
	"hartix/elf"
)

// plan is what a space shall be, as far as it can be told without a memory.
type plan struct {
	program api.Elf
	stack   stack
}

// planOf reads the file and lays the stack's page; what it refuses, Demand refuses (P14.2).
func planOf(file []byte, args []string) (plan, api.Errno) {
	program, err := elf.Read(file)
	switch {
	case err != nil:
		return plan{}, api.ErrExecFile
	case len(args) > api.MaxArgs:
		return plan{}, api.ErrExecArgs
	case slices.ContainsFunc(args, hasZero):
		return plan{}, api.ErrExecArg
	}
	p := plan{program: program}
	room := false
	if p.stack, room = stackOf(p.stackAt(), args); !room {
		return plan{}, api.ErrExecStack
	}
	return p, api.OK
}

// hasZero tells of an argument whose end could not be found again: a byte 0 ends it.
func hasZero(arg string) bool { return strings.IndexByte(arg, 0) >= 0 }

// guard is the number of the guard page: the first behind the program's.
func (p plan) guard() int {
	segs := p.program.Segs
	return pagesBelow(segs[len(segs)-1])
}

// pages is how many there are in all: the program's, the guard page and the stack's.
func (p plan) pages() int { return p.guard() + api.ExecPages }

// stackAt is where the stack's page begins: it is the last.
func (p plan) stackAt() uint64 { return addressOf(p.pages() - 1) }

func (p plan) start() api.Start {
	return api.Start{Entry: p.program.Entry, Sp: p.stack.sp, Argv: p.stack.sp}
}

// nodesAtLeast are the nodes of every space with pages: the root, two for the highest addresses, and one below the root for the lowest.
const nodesAtLeast = 4

// demand is p + nodes(p). It is reckoned here, since space.Nodes tells nothing of more pages than a memory has frames.
func (p plan) demand() int {
	pages := p.pages()
	return pages + nodesAtLeast + (pages+api.NodeSize-1)/api.NodeSize
}

// rights tells what may be done with a page. Since the segments rise, the first that ends above it is the one that it lies in, or else the first above it.
func (p plan) rights(page int) uint64 {
	for _, seg := range p.program.Segs {
		if page < pagesBelow(seg) {
			return rightsOf(seg.Flags)
		}
	}
	return api.PteR | api.PteW
}

func rightsOf(flags uint32) uint64 {
	rights := uint64(0)
	for _, right := range sameRights {
		if flags&right.flag != 0 {
			rights |= right.bit
		}
	}
	return rights
}

// sameRights are a segment's flags, and the bits by which a page has them.
var sameRights = [...]struct {
	flag uint32
	bit  uint64
}{
	{api.SegR, api.PteR},
	{api.SegW, api.PteW},
	{api.SegX, api.PteX},
}

// pagesBelow is how many pages there are from address 0 to a segment's end.
func pagesBelow(seg api.Seg) int {
	return int((seg.Va + seg.Mem + api.PageSize - 1) / api.PageSize)
}

func addressOf(page int) uint64 { return uint64(page) * api.PageSize }
