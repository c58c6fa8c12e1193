package elf

import "hartix/api"

// fileSize counts in 64 bits: eight segments that may be can have more bytes than an int of 32 counts.
func fileSize(segs []api.Seg) uint64 {
	size := bytesBegin(segs)
	for _, s := range segs {
		size += uint64(len(s.Data))
	}
	return size
}

// bytesBegin tells where the segments' bytes begin in the file.
func bytesBegin(segs []api.Seg) uint64 {
	return api.ElfHead + api.ElfSegHead*uint64(len(segs))
}

func lay(e api.Elf, size uint64) []byte {
	file := make([]byte, 0, size)
	h := head(e)
	file = append(file, h[:]...)
	at := bytesBegin(e.Segs)
	for _, s := range e.Segs {
		h := segHead(s, at)
		file = append(file, h[:]...)
		at += uint64(len(s.Data))
	}
	for _, s := range e.Segs {
		file = append(file, s.Data...)
	}
	return file
}

func head(e api.Elf) [api.ElfHead]byte {
	var h [api.ElfHead]byte
	for _, f := range headFields {
		f.put(h[:], f.fixed)
	}
	headFields[headEntry].put(h[:], e.Entry)
	headFields[headSegsAt].put(h[:], api.ElfHead)
	headFields[headSegCount].put(h[:], uint64(len(e.Segs)))
	return h
}

func segHead(s api.Seg, bytesAt uint64) [api.ElfSegHead]byte {
	var h [api.ElfSegHead]byte
	for _, f := range segFields {
		f.put(h[:], f.fixed)
	}
	segFields[segFlags].put(h[:], uint64(s.Flags))
	segFields[segBytesAt].put(h[:], bytesAt)
	segFields[segVa].put(h[:], s.Va)
	segFields[segPhysical].put(h[:], s.Va)
	segFields[segBytes].put(h[:], uint64(len(s.Data)))
	segFields[segMem].put(h[:], s.Mem)
	return h
}
