package sv39

import (
	"hartix/api"
	"hartix/ram"
)

// The levels of a table's nodes; the root's is the top one.
const (
	levels = 3
	top    = levels - 1
)

// path is a walk from the root down to where it ended.
type path struct {
	at    [levels]uint64 // by level, from the top down: where the entry on the way stands; 0 where there is none
	level int            // the last one
	entry entry          // the last one that was met
	kind  kind           // what stands at the last level
}

// node gives the node of a level that the path goes through.
func (p path) node(level int) uint64 { return p.at[level] - p.at[level]%api.PageSize }

// guide says how a walk goes: shown an entry, it tells what stands there from then on, and whether the walk follows it, if it is a pointer.
type guide interface {
	meet(level int, at uint64, e entry) (now entry, follow bool)
}

// walk goes down a table along va, whether that is right or not. It is one for all guides, so that an entry is laid down just where it is looked for.
func walk[G guide](r *ram.Ram, root, va uint64, g G) path {
	p := path{level: top}
	node := root
down:
	for {
		at := node + index(va, p.level)*entrySize
		stands, ok := r.Load(at, entrySize)
		if !ok || !mayBeNode(node) {
			p.kind = lost
			break down
		}
		now, follow := g.meet(p.level, at, entry(stands))
		p.at[p.level], p.entry, p.kind = at, now, now.kind(p.level)
		if p.kind == pointer && follow {
			node = now.address()
			p.level--
			continue down
		}
		break down
	}
	return p
}

// looking is the guide that changes nothing.
type looking struct{}

func (looking) meet(_ int, _ uint64, e entry) (entry, bool) { return e, true }

// laying is the guide that lays a leaf down, and the nodes on the way to it.
type laying struct {
	r    *ram.Ram
	leaf entry
}

func (l laying) meet(level int, at uint64, e entry) (entry, bool) {
	if e.kind(level) != empty {
		return e, true
	}
	now := l.leaf
	if level > 0 {
		node, _ := l.r.Alloc()
		now = toPage(node, 0)
	}
	l.r.Store(at, entrySize, uint64(now))
	return now, true
}

// mayBeNode tells whether there is a node at pa, if that is of a held frame.
func mayBeNode(pa uint64) bool { return pa%api.PageSize == 0 && pa != api.RamBase }

func isNode(r *ram.Ram, pa uint64) bool {
	_, held := r.Load(pa, entrySize)
	return held && mayBeNode(pa)
}

// firstTaken gives the index of the first entry, from one on, that is not empty; NodeSize, if there is none, or no node. It reads them all at once: that is far quicker than a Load for each.
func firstTaken(r *ram.Ram, node, from uint64) uint64 {
	rest, _ := r.Read(node+from*entrySize, int(api.NodeSize-from)*entrySize)
	for i := 0; i < len(rest); i += entrySize {
		if entry(rest[i]).has(api.PteV) {
			return from + uint64(i/entrySize)
		}
	}
	return api.NodeSize
}
