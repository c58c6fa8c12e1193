package exec_test

// Programs and arguments that the tests have in common.

import (
	"bytes"
	"strings"
	"testing"

	"hartix/api"
	"hartix/elf"
)

// fileOf gives a program's file.
func fileOf(t *testing.T, program api.Elf) []byte {
	t.Helper()
	file, err := elf.Write(program)
	if err != nil {
		t.Fatalf("%+v: %v", program, err)
	}
	return file
}

// smallest is the program of the chapter's examples.
func smallest() api.Elf {
	return api.Elf{Segs: []api.Seg{{Flags: reads | fetches, Data: []byte{0x73, 0, 0, 0}, Mem: 4}}}
}

func smallestFile(t *testing.T) []byte {
	t.Helper()
	return fileOf(t, smallest())
}

// ending gives a program whose last segment ends at that address: one of code at 0, and behind it, if the end is above its page, one of data.
func ending(t *testing.T, end uint64) []byte {
	t.Helper()
	program := smallest()
	if end <= page {
		program.Segs[0].Mem = end
		program.Segs[0].Data = program.Segs[0].Data[:min(end, 4)]
	} else {
		program.Segs = append(program.Segs, api.Seg{Va: page, Flags: reads | writes, Data: []byte("data"), Mem: end - page})
		program.Segs[1].Data = program.Segs[1].Data[:min(end-page, 4)]
	}
	return fileOf(t, program)
}

// pagesFile gives a program of so many pages.
func pagesFile(t *testing.T, pages int) []byte {
	t.Helper()
	return ending(t, uint64(pages)*page)
}

// pattern gives n bytes, none of them 0, that begin elsewhere for each seed.
func pattern(n, seed int) []byte {
	b := make([]byte, n)
	for k := range b {
		b[k] = byte((k*7+k/251+seed*31)%255) + 1
	}
	return b
}

func arg(n int) string { return string(pattern(n, n)) }

// many gives so many arguments of n bytes each.
func many(count, n int) []string {
	var args []string
	for k := range count {
		args = append(args, string(pattern(n, k)))
	}
	return args
}

// The flags that a segment may have.
func flagsThatMayBe() []uint32 {
	return []uint32{fetches, reads, reads | fetches, reads | writes, reads | writes | fetches}
}

func TestPatternHasNoZero(t *testing.T) {
	if bytes.IndexByte(pattern(100000, 3), 0) >= 0 || strings.Contains(arg(4080), "\x00") {
		t.Error("a byte 0")
	}
}
