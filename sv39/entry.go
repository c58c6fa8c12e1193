package sv39

import "hartix/api"

// Where the fields of an entry, and of an address, lie.
const (
	entrySize  = 8  // bytes
	pageShift  = 10 // in an entry: below its page's number
	usedBits   = 54 // of an entry: those above are 0
	offsetBits = 12 // of an address: its place in the page
	indexBits  = 9  // of an address: for each level, above
)

// entry is what stands in a node.
type entry uint64

// kind is what an entry is at its level.
type kind int

const (
	empty kind = iota
	bad
	leaf
	pointer
	lost // no entry at all: what a walk was led to is no node
)

// toPage gives the entry with these bits that leads to the page at pa.
func toPage(pa, bits uint64) entry {
	return entry(pa>>offsetBits<<pageShift | bits | api.PteV)
}

// address gives where the page of a leaf or of a pointer begins.
func (e entry) address() uint64 { return uint64(e) >> pageShift << offsetBits }

func (e entry) has(bits entry) bool { return e&bits == bits }

func (e entry) hasOneOf(bits entry) bool { return e&bits != 0 }

func (e entry) kind(level int) kind {
	switch {
	case !e.has(api.PteV):
		return empty
	case e>>usedBits != 0, !e.isReadIfWritten():
		return bad
	case e.hasOneOf(api.PteR | api.PteX):
		if inSpan(e.address(), level) != 0 {
			return bad
		}
		return leaf
	case level == 0, e.hasOneOf(api.PteU | api.PteA | api.PteD):
		return bad
	}
	return pointer
}

func (e entry) isReadIfWritten() bool { return !e.has(api.PteW) || e.has(api.PteR) }

// span is how many bytes of addresses an entry of a level serves.
func span(level int) uint64 { return 1 << (offsetBits + indexBits*level) }

// inSpan is how far an address lies behind the first that its entry of a level serves.
func inSpan(address uint64, level int) uint64 { return address & (span(level) - 1) }

// index tells which entry of a node of a level an address leads to.
func index(va uint64, level int) uint64 {
	return va >> (offsetBits + indexBits*level) % api.NodeSize
}

// right is what one kind of access asks of a leaf.
type right struct {
	access api.Access
	given  func(entry) bool
}

// lets tells whether a leaf lets a user have that access.
func (e entry) lets(a api.Access) bool {
	for _, row := range [...]right{
		{api.Fetch, entry.letsFetch},
		{api.Load, entry.letsLoad},
		{api.Store, entry.letsStore},
	} {
		if row.access == a {
			return e.has(api.PteU|api.PteA) && row.given(e)
		}
	}
	return false
}

func (e entry) letsFetch() bool { return e.has(api.PteX) }

func (e entry) letsLoad() bool { return e.has(api.PteR) }

func (e entry) letsStore() bool { return e.has(api.PteW | api.PteD) }
