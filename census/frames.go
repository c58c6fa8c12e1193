package census

import "hartix/api"

// naming is somebody who names a frame: the address, and whose the frame is by it.
type naming struct {
	address uint64
	class   int
	owner   int
}

// namings tells all that name a frame, in their order.
func namings(l api.OsLook, free []uint64) []naming {
	const nobody = 0
	var all []naming
	name := func(class, owner int, addresses ...uint64) {
		for _, address := range addresses {
			all = append(all, naming{address, class, owner})
		}
	}
	name(api.FrameTramp, nobody, l.Tramp)
	name(api.FrameFree, nobody, free...)
	for _, p := range l.Procs {
		name(api.FrameNode, p.Slot, p.Nodes...)
		for _, page := range p.Pages {
			name(api.FramePage, p.Slot, page.Frame)
		}
		name(api.FrameTrap, p.Slot, p.Frame)
	}
	for _, i := range l.Inodes {
		name(api.FrameBlock, i.Ino, i.Blocks...)
	}
	return all
}

// owners gathers, by address, the first who names it and how many do.
func owners(all []naming) map[uint64]api.FrameOwn {
	owners := map[uint64]api.FrameOwn{}
	for _, n := range all {
		own, known := owners[n.address]
		if !known {
			own = api.FrameOwn{Class: n.class, Owner: n.owner}
		}
		own.Times++
		owners[n.address] = own
	}
	return owners
}

// frameAt tells the number of the frame at an address, if one of so many is there.
func frameAt(address uint64, frames int) (int, bool) {
	number, rest := (address-api.RamBase)/api.PageSize, address%api.PageSize
	if address < api.RamBase || rest != 0 || number >= uint64(frames) {
		return 0, false
	}
	return int(number), true
}

// ownFrames tells of each frame whose it is.
func ownFrames(all []naming, frames int) []api.FrameOwn {
	told := make([]api.FrameOwn, frames)
	for address, own := range owners(all) {
		if number, is := frameAt(address, frames); is {
			told[number] = own
		}
	}
	return told
}
