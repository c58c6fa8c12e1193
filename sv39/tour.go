package sv39

import (
	"iter"

	"hartix/ram"
)

// branch names an entry by what it serves, whichever node it stands in.
type branch struct {
	va    uint64 // the first address, of 39 bits
	level int
}

// tour goes through a table by rising addresses. Between two entries the table may be changed, nodes freed and taken again elsewhere: so it keeps no node, but walks to each place anew.
type tour struct {
	r    *ram.Ram
	root uint64
	va   uint64            // how far it has come: an address of 39 bits
	told map[uint64]branch // the nodes that it has told, by the pointer that it has followed to each
}

// toured gives the leaves of a table, and the pointers to nodes not told before, to range over.
func toured(r *ram.Ram, root uint64) iter.Seq2[branch, path] {
	return func(yield func(branch, path) bool) {
		t := &tour{r: r, root: root, told: map[uint64]branch{}}
		t.each(yield)
	}
}

func (t *tour) each(yield func(branch, path) bool) {
	for t.va < span(levels) {
		p := walk(t.r, t.root, t.va, t)
		here := t.branch(p.level)
		switch {
		case p.kind == pointer && t.tells(p.entry.address()):
			t.told[p.entry.address()] = here
		case p.kind == leaf && here.va == t.va:
			t.va += span(p.level)
		default:
			t.pass(p)
			continue
		}
		if !yield(here, p) {
			return
		}
	}
}

// branch gives the entry of a level that the tour has come to.
func (t *tour) branch(level int) branch {
	return branch{va: t.va - inSpan(t.va, level), level: level}
}

// pass leaves the last entry of a path behind, and the empty ones that follow it. A lost path has no entry there, and no node: all that its pointer serves is passed.
func (t *tour) pass(p path) {
	next := firstTaken(t.r, p.node(p.level), index(t.va, p.level)+1)
	t.va = t.branch(p.level+1).va + next*span(p.level)
}

// meet follows just the pointers by which a node was told. (What was not told has none: its branch is of level 0.)
func (t *tour) meet(level int, _ uint64, e entry) (entry, bool) {
	return e, t.told[e.address()] == t.branch(level)
}

// tells says whether what a pointer leads to is to be told: a node that was told before is, if it is reached there no more.
func (t *tour) tells(pa uint64) bool {
	if pa == t.root || !isNode(t.r, pa) {
		return false
	}
	by, told := t.told[pa]
	return !told || !t.leads(by, pa)
}

func (t *tour) leads(by branch, node uint64) bool {
	p := walk(t.r, t.root, by.va, looking{})
	e, _ := t.r.Load(p.at[by.level], entrySize)
	return p.level < by.level && entry(e).address() == node
}
