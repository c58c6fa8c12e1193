package elf_test

// Programs to begin from.

import (
	"fmt"
	"strings"

	"hartix/api"
)

// told tells a program in few words: its bytes by their number alone.
func told(e api.Elf) string {
	var b strings.Builder
	fmt.Fprintf(&b, "{entry %#x", e.Entry)
	for _, s := range e.Segs {
		fmt.Fprintf(&b, " {%#x flags %#x, %d bytes (nil: %v), mem %#x}", s.Va, s.Flags, len(s.Data), s.Data == nil, s.Mem)
	}
	return b.String() + "}"
}

func small() api.Elf {
	return api.Elf{Segs: []api.Seg{{Flags: api.SegR | api.SegX, Data: []byte{0x73, 0, 0, 0}, Mem: 4}}}
}

// three has code that does not begin at 0, data with zeros behind them, and zeros alone.
func three() api.Elf {
	return api.Elf{Entry: 0x1002, Segs: []api.Seg{
		{Va: 0x1000, Flags: api.SegR | api.SegX, Data: []byte{1, 2, 3, 4, 5, 6, 7, 8}, Mem: 8},
		{Va: 0x3000, Flags: api.SegR | api.SegW, Data: []byte{9, 10, 11}, Mem: 4096},
		{Va: 0x4000, Flags: api.SegR, Mem: 0x2001},
	}}
}

// rising gives a program of n segments, a page each, the code in the last.
func rising(n int) api.Elf {
	var e api.Elf
	for k := range n {
		e.Segs = append(e.Segs, api.Seg{Va: uint64(k) * 4096, Flags: api.SegR, Data: []byte{byte(k), 0xEE}, Mem: 4096})
	}
	if n > 0 {
		e.Segs[n-1].Flags |= api.SegX
		e.Entry = e.Segs[n-1].Va
	}
	return e
}
