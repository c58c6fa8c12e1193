package exec_test

// The space, P14.1, P14.3 and P14.4: every space is looked at by the world, byte by byte and right by right.

import (
	"bytes"
	"slices"
	"testing"

	"hartix/api"
	"hartix/exec"
	"hartix/ram"
)

// Every flag that a segment may have, in each of three segments, one of them with X.
func TestRightsOfSegments(t *testing.T) {
	for _, one := range flagsThatMayBe() {
		for _, two := range flagsThatMayBe() {
			for _, three := range flagsThatMayBe() {
				program := api.Elf{Segs: []api.Seg{
					{Va: 0, Flags: one, Data: pattern(10, 1), Mem: 10},
					{Va: page, Flags: two, Data: pattern(20, 2), Mem: page + 1},
					{Va: 4 * page, Flags: three, Data: pattern(30, 3), Mem: 2 * page},
				}}
				k := slices.IndexFunc(program.Segs, func(s api.Seg) bool { return s.Flags&fetches != 0 })
				if k < 0 {
					continue
				}
				program.Entry = program.Segs[k].Va + 8
				w := newWorld(t, 32)
				w.free(w.begin(fileOf(t, program), "a"))
			}
		}
	}
}

// A page between segments, or below the first one, is of the first segment above it.
func TestPagesBetween(t *testing.T) {
	program := api.Elf{Entry: 3*page + 2, Segs: []api.Seg{
		{Va: 3 * page, Flags: fetches, Data: pattern(9, 1), Mem: 9},
		{Va: 4 * page, Flags: reads | writes, Data: pattern(page, 2), Mem: page},
		{Va: 7 * page, Flags: reads, Data: pattern(1, 3), Mem: 2*page + 1},
		{Va: 11 * page, Flags: reads | writes | fetches, Mem: page - 1},
	}}
	_, s, start := mustLoad(t, fileOf(t, program))
	want := "XU XU XU XU RWU RU RU RU RU RU RWXU RWXU RW RWU"
	if perms(s) != want || start.Entry != 3*page+2 {
		t.Errorf("%s, want %s; %+v", perms(s), want, start)
	}
	newWorld(t, 40).begin(fileOf(t, program))
}

func TestEightSegments(t *testing.T) {
	var program api.Elf
	for k := range 8 {
		flags := flagsThatMayBe()[k%5]
		program.Segs = append(program.Segs, api.Seg{Va: uint64(2*k+1) * page, Flags: flags, Data: pattern(100*k, k), Mem: uint64(100*k + 1)})
	}
	program.Entry = page
	newWorld(t, 40).begin(fileOf(t, program), "eight")
}

// Bytes of one page and of several, at the pages' borders, and the zeros behind them up to Mem and to the page's end.
func TestBytesOfSegments(t *testing.T) {
	for _, n := range []int{0, 1, 2, page - 1, page, page + 1, 2*page - 1, 2 * page, 3*page + 7} {
		for _, more := range []int{0, 1, 5, page - 1, page, page + 1, 2*page + 3} {
			if n+more == 0 {
				continue
			}
			mem := uint64(n + more)
			w := newWorld(t, 40)
			program := api.Elf{Segs: []api.Seg{{Flags: reads | fetches, Data: pattern(n, 1), Mem: mem}}}
			next := (mem + page - 1) / page * page
			program.Segs = append(program.Segs, api.Seg{Va: next, Flags: reads | writes, Data: pattern(n, 2), Mem: mem})
			w.free(w.begin(fileOf(t, program)))
		}
	}
}

// What stood in a frame ahead of it is not seen.
func TestOldBytesAreGone(t *testing.T) {
	w := newWorld(t, 40)
	var taken []uint64
	for w.r.Count() > 0 {
		pa, _ := w.r.Alloc()
		w.r.Write(pa, bytes.Repeat([]byte{0xEE}, page))
		taken = append(taken, pa)
	}
	for _, pa := range taken {
		w.r.Free(pa)
	}
	w.begin(ending(t, 5*page+100), "one", "two")
}

func TestStart(t *testing.T) {
	for _, entry := range []uint64{page, page + 2, 2 * page, 3*page - 2} {
		program := api.Elf{Entry: entry, Segs: []api.Seg{{Va: page, Flags: fetches, Mem: 2 * page}}}
		_, s, start := mustLoad(t, fileOf(t, program))
		if start != (api.Start{Entry: entry, Sp: s.Size() - 16, Argv: s.Size() - 16}) {
			t.Errorf("%+v of size %x", start, s.Size())
		}
	}
}

// Where the arguments stand is read as a program would: Argv names the addresses, and these the texts.
func TestArgumentsReadBack(t *testing.T) {
	for _, args := range [][]string{
		nil, {""}, {"", "", ""}, {"a"}, {"a", "", "b"}, {"name", "-x", "file"}, {arg(14), arg(15), arg(16), arg(17)},
		{"\xff\xfe", "\u4e16", "\x01"}, many(32, 0), many(32, 1), many(32, 100), {arg(4064)}, {arg(4079)}, {arg(2000), arg(2000)}, many(31, 15), many(2, 2031),
	} {
		w := newWorld(t, 32)
		l := w.begin(ending(t, 3*page), args...)
		at := l.m.start.Argv
		if at%16 != 0 {
			t.Errorf("Argv is %x", at)
		}
		for k, want := range append(slices.Clone(args), "") {
			b, ok := l.s.In(at+uint64(8*k), 8)
			if !ok {
				t.Fatalf("no address of argument %d", k)
			}
			address := uint64(0)
			for i, one := range b {
				address |= uint64(one) << (8 * i)
			}
			if k == len(args) {
				if address != 0 {
					t.Errorf("behind the addresses stands %x", address)
				}
				continue
			}
			if got, ok := l.s.Str(address, page); got != want || !ok || address%16 != 0 {
				t.Errorf("argument %d at %x: %q, %v, want %q", k, address, got, ok, want)
			}
		}
	}
}

// With every number of free frames: refused, and nothing has changed, up to one below the demand.
func TestEveryNumberOfFreeFrames(t *testing.T) {
	for _, end := range []uint64{1, page, 3*page + 1, 20 * page} {
		file := ending(t, end)
		demand, _ := exec.Demand(file, nil)
		for free := range demand + 4 {
			w := newWorld(t, demand+8)
			f := w.frame()
			w.leave(free)
			_, errno := w.load(file, []string{"x"}, f, first)
			want := api.ErrExecRoom
			if free >= demand {
				want = api.OK
			}
			if errno != want {
				t.Errorf("%d of %d frames: %d", free, demand, errno)
			}
		}
	}
}

// The greatest memory: a program that takes all of it, one that needs a frame more, and greater ones.
func TestWholeMemory(t *testing.T) {
	w := newWorld(t, api.MaxFrames)
	f := w.frame()
	for _, pages := range []int{4081, 4094, 4095, 4096, 5000, 1 << 18} {
		if _, errno := w.load(pagesFile(t, pages), nil, f, first); errno != api.ErrExecRoom {
			t.Errorf("%d pages: %d", pages, errno)
		}
	}
	l, errno := w.load(pagesFile(t, 4080), []string{"a", "b"}, f, first)
	if errno != api.OK || w.r.Count() != 0 {
		t.Fatalf("%d, %d free", errno, w.r.Count())
	}
	w.free(l)
}

// Where the nodes' number turns: 512 pages, and one more.
func TestNodesBorder(t *testing.T) {
	for _, pages := range []int{509, 510, 511, 512} {
		w := newWorld(t, 600)
		w.free(w.begin(pagesFile(t, pages), "nodes"))
	}
}

// The numbers trapframe and tramp are space.New's business: what it refuses comes as it is.
func TestTrapframeAndTrampoline(t *testing.T) {
	file := smallestFile(t)
	outcomes := map[api.Errno]int{}
	w := newWorld(t, 24)
	a, b := w.frame(), w.frame()
	numbers := []uint64{0, 1, a, a + 8, a + page, b, first, first - page, first + page, first + 24*page, 1 << 63, 1<<64 - 1, 1<<64 - page}
	for _, trapframe := range numbers {
		for _, tramp := range numbers {
			l, errno := w.load(file, nil, trapframe, tramp)
			outcomes[errno]++
			if errno == api.OK {
				w.free(l)
			}
		}
	}
	if outcomes[api.OK] != 6 || outcomes[api.ErrSpaceFrame] != len(numbers)*len(numbers)-6 {
		t.Errorf("%v", outcomes)
	}
}

// A trapframe is not the space's own, even if two spaces have it.
func TestTwoSpacesOfOneTrapframe(t *testing.T) {
	w := newWorld(t, 40)
	f := w.frame()
	one, _ := w.load(smallestFile(t), nil, f, first)
	two, _ := w.load(ending(t, 2*page), []string{"two"}, f, first)
	w.free(one)
	w.free(two)
}

// Of several reasons the first holds: all their sets, with the memory that is none.
func TestOrderOfLoadsRefusals(t *testing.T) {
	reasons := []api.Errno{api.ErrExecFile, api.ErrExecArgs, api.ErrExecArg, api.ErrExecStack, api.ErrZero, api.ErrExecRoom, api.ErrSpaceFrame}
	for set := range 128 {
		is := func(k int) bool { return set>>k&1 == 1 }
		file := smallestFile(t)
		if is(0) {
			file = file[:100]
		}
		w := newWorld(t, 16)
		f := w.frame()
		if is(4) {
			w.r = &ram.Ram{}
		} else if is(5) {
			w.leave(7)
		}
		if is(6) {
			f = first
		}
		want := api.OK
		for k := len(reasons) - 1; k >= 0; k-- {
			if is(k) {
				want = reasons[k]
			}
		}
		if _, errno := w.load(file, argsWith(is(1), is(2), is(3)), f, first); errno != want {
			t.Errorf("the set %07b: %d, want %d", set, errno, want)
		}
	}
}

func TestMemoryThatIsNone(t *testing.T) {
	for _, r := range []*ram.Ram{nil, {}} {
		for _, file := range [][]byte{smallestFile(t), pagesFile(t, 1<<18)} {
			s, start, errno := exec.Load(r, file, []string{"a"}, first, first)
			if s != nil || start != (api.Start{}) || errno != api.ErrZero {
				t.Errorf("%v, %+v, %d", s, start, errno)
			}
		}
		if _, _, errno := exec.Load(r, nil, nil, 0, 0); errno != api.ErrExecFile {
			t.Errorf("no file: %d", errno)
		}
	}
}

// A memory that FromImage gave, with its free frames in another order, serves as well.
func TestMemoryOfAnImage(t *testing.T) {
	w := newWorld(t, 40)
	f := w.frame()
	img := w.r.Image()
	slices.Reverse(img.Free)
	img.Free[3], img.Free[17] = img.Free[17], img.Free[3]
	r, err := ram.FromImage(img)
	if err != nil {
		t.Fatal(err)
	}
	w.r = r
	l, errno := w.load(ending(t, 6*page+5), []string{"image"}, f, first)
	if errno != api.OK {
		t.Fatal(errno)
	}
	w.free(l)
}

// Several spaces over one memory, freed in another order than they were loaded: none turns another.
func TestSpacesApart(t *testing.T) {
	w := newWorld(t, 120)
	var all []*loaded
	for k := range 6 {
		all = append(all, w.begin(ending(t, uint64(k*page+1)), many(k, 50)...))
	}
	for _, k := range []int{3, 0, 5, 1} {
		w.free(all[k])
	}
	w.begin(ending(t, 9*page), "again")
	w.free(all[2])
	w.free(all[4])
}
