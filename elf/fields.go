package elf

import "hartix/api"

// field is a row of a header's table.
type field struct {
	offset int
	bytes  int
	fixed  uint64 // what stands there whatever the program is; 0 where that is the program's
}

// The header's rows. What is not looked at and written 0 has none.
const (
	headMagic = iota
	headClass
	headOrder
	headIdent
	headType
	headMachine
	headVersion
	headEntry
	headSegsAt
	headSize
	headSegSize
	headSegCount
)

var headFields = [...]field{
	headMagic:    {0, 4, 0x464C457F},
	headClass:    {4, 1, 2},
	headOrder:    {5, 1, 1},
	headIdent:    {6, 1, 1},
	headType:     {16, 2, 2},
	headMachine:  {18, 2, api.ElfMachine},
	headVersion:  {20, 4, 1},
	headEntry:    {24, 8, 0},
	headSegsAt:   {32, 8, 0},
	headSize:     {52, 2, api.ElfHead},
	headSegSize:  {54, 2, api.ElfSegHead},
	headSegCount: {56, 2, 0},
}

// The rows of a segment's header.
const (
	segType = iota
	segFlags
	segBytesAt
	segVa
	segPhysical
	segBytes
	segMem
	segAlign
)

var segFields = [...]field{
	segType:     {0, 4, 1},
	segFlags:    {4, 4, 0},
	segBytesAt:  {8, 8, 0},
	segVa:       {16, 8, 0},
	segPhysical: {24, 8, 0},
	segBytes:    {32, 8, 0},
	segMem:      {40, 8, 0},
	segAlign:    {48, 8, api.SegPage},
}

// cut gives a piece of a file without the room behind it, so that a piece never reaches into the next one.
func cut(file []byte, at, n int) []byte { return file[at : at+n : at+n] }

// in tells the number that a header has in the field.
func (f field) in(header []byte) uint64 {
	var n uint64
	for k, b := range cut(header, f.offset, f.bytes) {
		n |= uint64(b) << (8 * k)
	}
	return n
}

func (f field) put(header []byte, n uint64) {
	piece := cut(header, f.offset, f.bytes)
	for k := range piece {
		piece[k] = byte(n >> (8 * k))
	}
}
