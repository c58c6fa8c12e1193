package elf_test

import (
	"testing"

	"hartix/api"
	"hartix/elf"
)

// P7.4.
func TestPages(t *testing.T) {
	for _, c := range []struct {
		mem  []uint64
		want int
	}{
		{[]uint64{1}, 1}, {[]uint64{4095}, 1}, {[]uint64{4096}, 1}, {[]uint64{4097}, 2}, {[]uint64{8192}, 2}, {[]uint64{8193}, 3},
		{[]uint64{1, 1}, 2}, {[]uint64{4097, 4097}, 4}, {[]uint64{5000, 1, 4096}, 4}, {[]uint64{1, 1, 1, 1, 1, 1, 1, 1}, 8},
		{[]uint64{1 << 30}, 1 << 18}, {[]uint64{1<<30 - 4096}, 1<<18 - 1}, {[]uint64{1<<30 - 4095}, 1 << 18},
	} {
		var e api.Elf
		var va uint64
		for _, mem := range c.mem {
			e.Segs = append(e.Segs, api.Seg{Va: va, Flags: 5, Mem: mem})
			va += (mem + 8191) &^ 4095
		}
		if n, err := elf.Pages(e); n != c.want || err != nil {
			t.Errorf("%v: %d, %v", c.mem, n, err)
		}
		checkWrite(t, e)
	}
}

// How many bytes a segment has in the file is not what counts, and gaps between segments are nobody's.
func TestPagesAreThoseInMemory(t *testing.T) {
	e := api.Elf{Segs: []api.Seg{
		{Flags: 5, Data: make([]byte, 5000), Mem: 5000},
		{Va: 1 << 29, Flags: 6, Data: make([]byte, 10), Mem: 9000},
	}}
	if n, err := elf.Pages(e); n != 5 || err != nil {
		t.Errorf("%d, %v", n, err)
	}
}

// What is too long as a file has its pages nevertheless.
func TestPagesOfWhatIsTooLong(t *testing.T) {
	e := withBytes(2, api.MaxElf+1)
	if n, err := elf.Pages(e); n != 512 || err != nil {
		t.Errorf("%d, %v", n, err)
	}
	if _, got := checkWrite(t, e); got != (reason{0, api.ErrElfLong}) {
		t.Errorf("%+v", got)
	}
	e.Entry = 1
	n, err := elf.Pages(e)
	if got := reasonOf(t, err); n != 0 || got != (reason{0, api.ErrElfEntry}) {
		t.Errorf("%d, %+v", n, got)
	}
}
