package exec_test

// P14.2.

import (
	"slices"
	"strings"
	"testing"

	"hartix/api"
	"hartix/elf"
	"hartix/exec"
)

// The numbers are those of DOC.md's formula, also where there are more pages than a memory has frames.
func TestDemandOfSomePages(t *testing.T) {
	for _, c := range []struct{ e, want int }{
		{1, 3 + 5}, {2, 4 + 5}, {509, 511 + 5}, {510, 512 + 5}, {511, 513 + 6}, {1022, 1024 + 6}, {1023, 1025 + 7},
		{4080, 4082 + 12}, {4094, 4096 + 12}, {4095, 4097 + 13}, {65536, 65538 + 133}, {1<<18 - 2, 1<<18 + 516}, {1<<18 - 1, 1<<18 + 1 + 517}, {1 << 18, 1<<18 + 2 + 517},
	} {
		if n, errno := exec.Demand(pagesFile(t, c.e), nil); n != c.want || errno != api.OK {
			t.Errorf("%d pages: %d, %d, want %d", c.e, n, errno, c.want)
		}
	}
}

func TestDemandAtThePagesBorders(t *testing.T) {
	for k := uint64(1); k < 1600; k++ {
		for _, end := range []uint64{k*page - 1, k * page, k*page + 1} {
			checkDemand(t, ending(t, end), nil)
		}
	}
	for _, end := range []uint64{1, 2, 3, 4, 1<<30 - page - 1, 1<<30 - page, 1<<30 - page + 1, 1<<30 - 1, 1 << 30} {
		checkDemand(t, ending(t, end), []string{"a"})
	}
}

// The last segment alone counts, not how many pages the segments take.
func TestDemandCountsTheGaps(t *testing.T) {
	program := smallest()
	program.Segs = append(program.Segs, api.Seg{Va: 700 * page, Flags: reads, Mem: page + 1})
	if n, errno := exec.Demand(fileOf(t, program), nil); n != 704+6 || errno != api.OK {
		t.Errorf("%d, %d", n, errno)
	}
}

func TestRoomOfOneArgument(t *testing.T) {
	file := smallestFile(t)
	for n := range 4200 {
		_, errno := checkDemand(t, file, []string{arg(n)})
		if (errno == api.OK) != (n < 4080) {
			t.Errorf("an argument of %d bytes: %d", n, errno)
		}
	}
}

// Many arguments: their addresses take room too, and each one is rounded for itself.
func TestRoomOfManyArguments(t *testing.T) {
	file := smallestFile(t)
	outcomes := map[api.Errno]int{}
	for count := 1; count <= 32; count++ {
		about := (page - 8*(count+1)) / count
		for n := max(about-20, 0); n < about+20; n++ {
			_, errno := checkDemand(t, file, many(count, n))
			outcomes[errno]++
		}
	}
	if outcomes[api.OK] < 300 || outcomes[api.ErrExecStack] < 300 {
		t.Errorf("%v", outcomes)
	}
}

// Room may end at each of the arguments, and at their addresses.
func TestWhereRoomEnds(t *testing.T) {
	file := smallestFile(t)
	for count := range 32 {
		for place := range count + 1 {
			for _, n := range []int{page - 1, page, page + 1, 3 * page} {
				args := slices.Insert(many(count, 3), place, arg(n))
				if _, errno := checkDemand(t, file, args); errno != api.ErrExecStack {
					t.Errorf("%d bytes at %d of %d: %d", n, place, count, errno)
				}
			}
		}
	}
	args := many(31, 15) // 31 steps of 16
	room := page - 31*16 - 8*33/16*16 - 16
	for _, c := range []struct {
		n    int
		want api.Errno
	}{{room - 1, api.OK}, {room, api.ErrExecStack}, {room + 1, api.ErrExecStack}} {
		if _, errno := checkDemand(t, file, append(args, arg(c.n))); errno != c.want {
			t.Errorf("%d bytes: %d, want %d", c.n, errno, c.want)
		}
	}
}

// An argument of millions of bytes is refused as any other.
func TestLongArguments(t *testing.T) {
	file := smallestFile(t)
	long := strings.Repeat("long", 1<<20)
	for _, args := range [][]string{{long}, {long, long, long}, {"", long}, slices.Repeat([]string{long}, 32)} {
		if n, errno := exec.Demand(file, args); n != 0 || errno != api.ErrExecStack {
			t.Errorf("%d, %d", n, errno)
		}
	}
	if n, errno := exec.Demand(file, []string{long + "\x00"}); n != 0 || errno != api.ErrExecArg {
		t.Errorf("%d, %d", n, errno)
	}
}

func TestHowManyArguments(t *testing.T) {
	file := smallestFile(t)
	for _, c := range []struct {
		count int
		want  api.Errno
	}{{0, api.OK}, {1, api.OK}, {31, api.OK}, {32, api.OK}, {33, api.ErrExecArgs}, {34, api.ErrExecArgs}, {10000, api.ErrExecArgs}} {
		for _, n := range []int{0, 1, 15} {
			if _, errno := checkDemand(t, file, many(c.count, n)); errno != c.want {
				t.Errorf("%d arguments of %d bytes: %d, want %d", c.count, n, errno, c.want)
			}
		}
	}
}

func TestZeroInAnArgument(t *testing.T) {
	file := smallestFile(t)
	for count := 1; count <= 32; count++ {
		for place := range count {
			for _, wrong := range []string{"\x00", "\x00a", "a\x00", "a\x00b", "\x00\x00"} {
				args := many(count, 3)
				args[place] = wrong
				if _, errno := checkDemand(t, file, args); errno != api.ErrExecArg {
					t.Errorf("%q at %d of %d: %d", wrong, place, count, errno)
				}
			}
		}
	}
	if _, errno := checkDemand(t, file, []string{"0", "\\0", "\xc0\x80", "\x01"}); errno != api.OK {
		t.Errorf("without a byte 0: %d", errno)
	}
}

// A file is refused just where elf.Read refuses it: cut, or with a byte turned, at every place.
func TestWrongFiles(t *testing.T) {
	file := smallestFile(t)
	outcomes := map[api.Errno]int{}
	try := func(wrong []byte) {
		_, errno := checkDemand(t, wrong, []string{"a"})
		if _, err := elf.Read(wrong); (err != nil) != (errno == api.ErrExecFile) {
			t.Errorf("% x: %d, %v", wrong, errno, err)
		}
		outcomes[errno]++
	}
	try(nil)
	try([]byte{})
	try([]byte("no program"))
	try(make([]byte, api.MaxElf+1))
	for k := range file {
		try(file[:k])
		for _, turn := range []byte{1, 2, 0x80, 0xFF} {
			wrong := slices.Clone(file)
			wrong[k] ^= turn
			try(wrong)
		}
	}
	try(append(slices.Clone(file), "behind"...))
	if outcomes[api.OK] < 100 || outcomes[api.ErrExecFile] < 200 || len(outcomes) != 2 {
		t.Errorf("%v", outcomes)
	}
}

// argsWith gives arguments of which each of these reasons is true by itself, or not.
func argsWith(tooMany, zero, noRoom bool) []string {
	args := []string{"a"}
	if tooMany {
		args = many(33, 1)
	}
	if noRoom {
		args[0] = arg(4090)
	}
	if zero {
		args[len(args)-1] += "\x00"
	}
	return args
}

// Of several reasons the first holds: all their sets.
func TestOrderOfDemandsRefusals(t *testing.T) {
	reasons := []api.Errno{api.ErrExecFile, api.ErrExecArgs, api.ErrExecArg, api.ErrExecStack}
	for set := range 16 {
		is := func(k int) bool { return set>>k&1 == 1 }
		file := smallestFile(t)
		if is(0) {
			file = file[1:]
		}
		want := api.OK
		for k := len(reasons) - 1; k >= 0; k-- {
			if is(k) {
				want = reasons[k]
			}
		}
		if _, errno := checkDemand(t, file, argsWith(is(1), is(2), is(3))); errno != want {
			t.Errorf("the set %04b: %d, want %d", set, errno, want)
		}
	}
}

// nil and empty mean the same.
func TestNoArguments(t *testing.T) {
	file := smallestFile(t)
	for _, args := range [][]string{nil, {}} {
		if n, errno := exec.Demand(file, args); n != 8 || errno != api.OK {
			t.Errorf("%d, %d", n, errno)
		}
	}
	if n, errno := exec.Demand(nil, nil); n != 0 || errno != api.ErrExecFile {
		t.Errorf("%d, %d", n, errno)
	}
}
