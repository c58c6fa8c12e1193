package exec_test

// P14.4: what follows.

import (
	"slices"
	"testing"

	"hartix/api"
	"hartix/exec"
	"hartix/sv39"
)

// What Write makes of a program is seen through the space byte by byte, not told by the second reading's own file.
func TestProgramSeenThroughTheSpace(t *testing.T) {
	program := api.Elf{Entry: 2*page + 100, Segs: []api.Seg{
		{Va: page, Flags: reads, Data: pattern(300, 1), Mem: 300},
		{Va: 2 * page, Flags: reads | fetches, Data: pattern(page+50, 2), Mem: page + 60},
		{Va: 6 * page, Flags: reads | writes, Data: pattern(7, 3), Mem: 2 * page},
	}}
	r, s, _ := mustLoad(t, fileOf(t, program))
	want := make([]byte, 8*page)
	for _, seg := range program.Segs {
		copy(want[seg.Va:], seg.Data)
	}
	for at := range uint64(8 * page) {
		pa, ok := sv39.Translate(r, s.Root(), at, api.Load)
		if got, _ := r.Load(pa, 1); !ok || byte(got) != want[at] {
			t.Fatalf("at %x: %x, %v, want %x", at, got, ok, want[at])
		}
	}
	for _, beyond := range []uint64{8 * page, 9*page - 1, 10 * page, api.TrapFrame, api.Tramp} {
		for _, access := range []api.Access{api.Load, api.Store, api.Fetch} {
			if _, ok := sv39.Translate(r, s.Root(), beyond, access); ok {
				t.Errorf("%x can be reached for %d", beyond, access)
			}
		}
	}
}

// Demand hangs on the last segment and the arguments' lengths alone.
func TestWhatDemandHangsOn(t *testing.T) {
	last := api.Seg{Va: 9 * page, Flags: reads | fetches, Data: pattern(20, 1), Mem: 3000}
	program := api.Elf{Entry: 9 * page, Segs: []api.Seg{last}}
	others := []api.Elf{
		{Entry: 9*page + 8, Segs: []api.Seg{{Va: 0, Flags: reads, Mem: 1}, last}},
		{Entry: 4 * page, Segs: []api.Seg{{Va: 0, Flags: reads, Data: pattern(3*page, 2), Mem: 3 * page}, {Va: 4 * page, Flags: fetches, Mem: 5 * page}, last}},
	}
	for count := range 34 {
		for _, n := range []int{0, 1, 100, 110, 130, 200} {
			args := many(count, n)
			want, wantErrno := exec.Demand(fileOf(t, program), args)
			other := many(count, n)
			for k := range other {
				other[k] = string(pattern(n, k+99))
			}
			for _, e := range others {
				if got, errno := exec.Demand(fileOf(t, e), other); got != want || errno != wantErrno {
					t.Errorf("%d of %d bytes: %d, %d, want %d, %d", count, n, got, errno, want, wantErrno)
				}
			}
		}
	}
}

// With one argument less, whichever it is, Demand is refused no more than before, and tells the same number.
func TestOneArgumentLess(t *testing.T) {
	file := smallestFile(t)
	s := scatter(1405)
	let, refused := 0, 0
	for range 3000 {
		var args []string
		for range 1 + s.below(33) {
			args = append(args, arg(pick(&s, 0, s.below(16), s.below(130), s.below(400), s.below(1300))))
		}
		n, errno := exec.Demand(file, args)
		if errno != api.OK {
			refused++
			continue
		}
		let++
		for k := range args {
			less := slices.Delete(slices.Clone(args), k, k+1)
			if got, errno := exec.Demand(file, less); got != n || errno != api.OK {
				t.Fatalf("without argument %d of %d: %d, %d", k, len(args), got, errno)
			}
		}
	}
	if let < 500 || refused < 500 {
		t.Errorf("%d let, %d refused", let, refused)
	}
}

// The same call answers the same, whatever was asked ahead of it.
func TestOneAnswer(t *testing.T) {
	file := ending(t, 4*page)
	w := newWorld(t, 40)
	for range 5 {
		l := w.begin(file, "again", "and", "again")
		if l.m.start.Sp != 0x5fb0 {
			t.Errorf("%+v", l.m.start)
		}
		w.free(l)
	}
}
