package sv39_test

// What the chapter says, read a second time: bit by bit, node by node from the bytes that the memory shows, without a walk that is shared, so that the tests do not lean on the code they test.

import (
	"reflect"
	"slices"
	"strconv"
	"strings"
	"testing"

	"hartix/api"
	"hartix/ram"
)

const (
	page = 4096
	base = 0x80000000
)

// digits gives the bits of a number from one to another, both counted, the highest first.
func digits(v uint64, from, to int) string {
	all := strconv.FormatUint(v, 2)
	all = strings.Repeat("0", 64-len(all)) + all
	return all[63-from : 64-to]
}

func number(t *testing.T, bits string) uint64 {
	t.Helper()
	v, err := strconv.ParseUint(bits, 2, 64)
	if err != nil {
		t.Fatal(err)
	}
	return v
}

func isSet(v uint64, bit int) bool { return v>>bit%2 == 1 }

// The bits of an entry, by their places.
const (
	bitV = iota
	bitR
	bitW
	bitX
	bitU
	bitG
	bitA
	bitD
)

// kindOf is P4.1.
func kindOf(e uint64, level int) string {
	zeros := func(n int) string { return strings.Repeat("0", n) }
	switch {
	case !isSet(e, bitV):
		return "empty"
	case digits(e, 63, 54) != zeros(10):
		return "bad"
	case isSet(e, bitW) && !isSet(e, bitR):
		return "bad"
	case isSet(e, bitR) || isSet(e, bitX):
		if level == 1 && digits(e, 18, 10) != zeros(9) || level == 2 && digits(e, 27, 10) != zeros(18) {
			return "bad"
		}
		return "leaf"
	case level == 0 || isSet(e, bitU) || isSet(e, bitA) || isSet(e, bitD):
		return "bad"
	}
	return "pointer"
}

func pageOf(t *testing.T, e uint64) uint64 { return number(t, digits(e, 53, 10)) }

func isNode(r *ram.Ram, pa uint64) bool {
	_, isFrame := r.Raw(pa)
	return isFrame && !r.IsFree(pa) && pa != base
}

// entriesOf gives the entries of a node; what is none has none.
func entriesOf(r *ram.Ram, node uint64) []uint64 {
	if !isNode(r, node) {
		return nil
	}
	b, _ := r.Raw(node)
	var all []uint64
	for len(b) > 0 {
		e := uint64(0)
		for _, c := range slices.Backward(b[:8]) {
			e = e*256 + uint64(c)
		}
		all = append(all, e)
		b = b[8:]
	}
	return all
}

func isRight(va uint64) bool {
	return digits(va, 63, 39) == strings.Repeat(digits(va, 38, 38), 25)
}

func indexAt(t *testing.T, va uint64, level int) int {
	t.Helper()
	return int(number(t, digits(va, 20+9*level, 12+9*level)))
}

// reached gives the entries that lead on from the root along va, the last one too, that of level 2 first; missed is set, if the last pointer leads to no node.
func reached(t *testing.T, r *ram.Ram, root, va uint64) (way []uint64, missed bool) {
	t.Helper()
	node := root
	for level := 2; ; level-- {
		all := entriesOf(r, node)
		if all == nil {
			return way, true
		}
		e := all[indexAt(t, va, level)]
		way = append(way, e)
		if kindOf(e, level) != "pointer" {
			return way, false
		}
		node = pageOf(t, e) * page
	}
}

// wantEntry is P4.2.
func wantEntry(t *testing.T, r *ram.Ram, root, va uint64) (uint64, int, bool) {
	t.Helper()
	way, missed := reached(t, r, root, va)
	if !isRight(va) || missed {
		return 0, 0, false
	}
	level := 3 - len(way)
	e := way[len(way)-1]
	if kindOf(e, level) != "leaf" {
		return 0, 0, false
	}
	return e, level, true
}

// wantTranslate is P4.3.
func wantTranslate(t *testing.T, r *ram.Ram, root, va uint64, a api.Access) (uint64, bool) {
	t.Helper()
	e, level, ok := wantEntry(t, r, root, va)
	if !ok || !isSet(e, bitU) || !isSet(e, bitA) {
		return 0, false
	}
	switch a {
	case api.Fetch:
		ok = isSet(e, bitX)
	case api.Load:
		ok = isSet(e, bitR)
	case api.Store:
		ok = isSet(e, bitW) && isSet(e, bitD)
	default:
		ok = false
	}
	if !ok {
		return 0, false
	}
	low := 12 + 9*level
	return number(t, digits(pageOf(t, e), 43, 9*level)+digits(va, low-1, 0)), true
}

func isUserPage(va uint64) bool { return va < 1<<38 && digits(va, 11, 0) == "000000000000" }

// wantNeed is P4.4.
func wantNeed(t *testing.T, r *ram.Ram, root, va uint64) int {
	t.Helper()
	if !isUserPage(va) || !isNode(r, root) {
		return 0
	}
	way, missed := reached(t, r, root, va)
	switch {
	case len(way) == 1 && kindOf(way[0], 2) == "empty":
		return 2
	case len(way) == 2 && !missed && kindOf(way[1], 1) == "empty":
		return 1
	}
	return 0
}

// wantMap is P4.6: it does to r, a memory of its own, what Map shall do.
func wantMap(t *testing.T, r *ram.Ram, root, va, pa, perm uint64) api.Errno {
	t.Helper()
	const permBits = 0b11111110
	switch {
	case !isUserPage(va):
		return api.ErrSvVa
	case pa%page != 0 || pa >= 1<<56:
		return api.ErrSvPa
	case perm&^permBits != 0 || !isSet(perm, bitR) && !isSet(perm, bitX) || isSet(perm, bitW) && !isSet(perm, bitR):
		return api.ErrSvPerm
	case !isNode(r, root):
		return api.ErrSvRoot
	}
	way, missed := reached(t, r, root, va)
	if missed || kindOf(way[len(way)-1], 3-len(way)) != "empty" {
		return api.ErrSvTaken
	}
	need := wantNeed(t, r, root, va)
	if need > r.Count() {
		return api.ErrSvRoom
	}
	node := root
	for level := 2; level > 0; level-- {
		at := node + 8*uint64(indexAt(t, va, level))
		e, _ := r.Load(at, 8)
		if kindOf(e, level) == "empty" {
			below, _ := r.Alloc()
			need--
			e = below/page*1024 + 1
			r.Store(at, 8, e)
		}
		node = pageOf(t, e) * page
	}
	if need != 0 {
		t.Fatalf("%d nodes less were taken than Need tells", need)
	}
	r.Store(node+8*uint64(indexAt(t, va, 0)), 8, pa/page*1024+perm+1)
	return api.OK
}

func isAllEmpty(r *ram.Ram, node uint64) bool {
	return !slices.ContainsFunc(entriesOf(r, node), func(e uint64) bool { return isSet(e, bitV) })
}

// wantUnmap is P4.7: it does to r, a memory of its own, what Unmap shall do.
func wantUnmap(t *testing.T, r *ram.Ram, root, va uint64) (uint64, api.Errno) {
	t.Helper()
	if !isUserPage(va) {
		return 0, api.ErrSvVa
	}
	if !isNode(r, root) {
		return 0, api.ErrSvRoot
	}
	e, level, ok := wantEntry(t, r, root, va)
	if !ok || level != 0 {
		return 0, api.ErrSvNone
	}
	way, _ := reached(t, r, root, va)
	middle, low := pageOf(t, way[0])*page, pageOf(t, way[1])*page
	r.Store(low+8*uint64(indexAt(t, va, 0)), 8, 0)
	if isAllEmpty(r, low) {
		r.Free(low)
		r.Store(middle+8*uint64(indexAt(t, va, 1)), 8, 0)
		if isAllEmpty(r, middle) {
			r.Free(middle)
			r.Store(root+8*uint64(indexAt(t, va, 2)), 8, 0)
		}
	}
	return e, api.OK
}

type leafAt struct{ va, pte uint64 }

// gone is what going through a table tells.
type gone struct {
	nodes  []uint64
	leaves []leafAt
	twice  bool // a frame is reached as a node twice
}

// through is P4.8.
func through(t *testing.T, r *ram.Ram, root uint64) gone {
	t.Helper()
	var g gone
	g.enter(t, r, root, 2, 0)
	return g
}

func (g *gone) enter(t *testing.T, r *ram.Ram, node uint64, level int, va uint64) {
	if !isNode(r, node) {
		return
	}
	if slices.Contains(g.nodes, node) {
		g.twice = true
		return
	}
	g.nodes = append(g.nodes, node)
	for i, e := range entriesOf(r, node) {
		at := va + uint64(i)<<(12+9*level)
		if level == 2 && i >= 256 {
			at += 0xffffff8000000000
		}
		switch kindOf(e, level) {
		case "leaf":
			g.leaves = append(g.leaves, leafAt{at, e})
		case "pointer":
			g.enter(t, r, pageOf(t, e)*page, level-1, at)
		}
	}
}

// wantFree is P4.9: it does to r, a memory of its own, what Free shall do.
func wantFree(t *testing.T, r *ram.Ram, root uint64) api.Errno {
	t.Helper()
	g := through(t, r, root)
	switch {
	case !isNode(r, root):
		return api.ErrSvRoot
	case g.leaves != nil:
		return api.ErrSvLeft
	}
	for _, node := range g.nodes {
		r.Free(node)
	}
	return api.OK
}

// memory gives a memory of so many frames.
func memory(t *testing.T, frames int) *ram.Ram {
	t.Helper()
	r, err := ram.New(frames)
	if err != nil {
		t.Fatal(err)
	}
	return r
}

// twin gives a memory of its own that is the same.
func twin(t *testing.T, r *ram.Ram) *ram.Ram {
	t.Helper()
	other, err := ram.FromImage(r.Image())
	if err != nil {
		t.Fatal(err)
	}
	return other
}

func checkMemory(t *testing.T, what string, r, want *ram.Ram) {
	t.Helper()
	got, w := r.Image(), want.Image()
	if reflect.DeepEqual(got, w) {
		return
	}
	if !slices.Equal(got.Free, w.Free) {
		t.Fatalf("%s: free are %x, want %x", what, got.Free, w.Free)
	}
	for i, f := range got.Held {
		for j, c := range f.Data {
			if c != w.Held[i].Data[j] {
				t.Fatalf("%s: the byte at %x is %x, want %x", what, f.Pa+uint64(j), c, w.Held[i].Data[j])
			}
		}
	}
	t.Fatalf("%s: the memory is another one", what)
}

// scatter gives numbers that look like none, the same each time.
type scatter uint64

func (s *scatter) next() uint64 {
	*s = *s*6364136223846793005 + 1442695040888963407
	x := uint64(*s)
	return x ^ x>>29
}

func (s *scatter) below(n int) int { return int(s.next() >> 8 % uint64(n)) }

func pick[T any](s *scatter, from []T) T { return from[s.below(len(from))] }
