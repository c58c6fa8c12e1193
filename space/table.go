package space

import (
	"hartix/api"
	"hartix/ram"
	"hartix/sv39"
)

// table is what a space is laid into: the memory, and the root of its page table there.
type table struct {
	memory *ram.Ram
	root   uint64
}

// newTable is called with three free frames at the least: so many nodes lead to the two highest pages.
func newTable(r *ram.Ram, trapframe, tramp uint64) table {
	root, _ := sv39.New(r)
	sv39.Map(r, root, api.TrapFrame, trapframe, api.PteR|api.PteW|api.PteA|api.PteD)
	sv39.Map(r, root, api.Tramp, tramp, api.PteR|api.PteX|api.PteA)
	return table{memory: r, root: root}
}

func areTwoFrames(r *ram.Ram, one, other uint64) bool {
	return isHeld(r, one) && isHeld(r, other) && one != other
}

func isHeld(r *ram.Ram, pa uint64) bool {
	_, held := r.Load(pa, 1)
	return held && pa%api.PageSize == 0
}

// frameOf gives the address of the frame that a leaf leads to: its page's number stands above ten other bits.
func frameOf(leaf uint64) uint64 { return leaf >> 10 * api.PageSize }

func addressOf(page int) uint64 { return uint64(page) * api.PageSize }

// leaf gives what leads to the page that has the address va; 0, if there is none.
func (t table) leaf(va uint64) uint64 {
	pte, _, _ := sv39.Entry(t.memory, t.root, va)
	return pte
}

// lay gives a page a frame of its own, all zero, and tells it.
func (t table) lay(page int, perm uint64) uint64 {
	frame, _ := t.memory.Alloc()
	sv39.Map(t.memory, t.root, addressOf(page), frame, perm)
	return frame
}

// take gives the frame of a page back, and the nodes that are empty without it.
func (t table) take(page int) {
	if leaf, errno := sv39.Unmap(t.memory, t.root, addressOf(page)); errno == api.OK {
		t.memory.Free(frameOf(leaf))
	}
}

// guard lays a page down anew, without the user's bit: whatever nodes that gives back it takes again.
func (t table) guard(page int) {
	if leaf, errno := sv39.Unmap(t.memory, t.root, addressOf(page)); errno == api.OK {
		sv39.Map(t.memory, t.root, addressOf(page), frameOf(leaf), leaf&api.PteAll&^api.PteU)
	}
}

// free gives the nodes of a table without pages of its own back.
func (t table) free() {
	sv39.Unmap(t.memory, t.root, api.TrapFrame)
	sv39.Unmap(t.memory, t.root, api.Tramp)
	sv39.Free(t.memory, t.root)
}
