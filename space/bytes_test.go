package space_test

// P8.9 to P8.12, P8.15.

import (
	"bytes"
	"math"
	"strings"
	"testing"

	"hartix/api"
)

// hollow gives a world with a space of eight pages: 0 and 1 may be read and written, 2 read alone, 3 fetched alone, 4 read and written, 5 is guarded, 6 and 7 may be read and written; the size ends in the midst of 7.
func hollow(t *testing.T) (*world, *pair) {
	t.Helper()
	w := newWorld(t, 48)
	p := w.begin()
	for k, perm := range []uint64{rw, rw, mayRead, mayFetch, rw, rw, rw} {
		w.grow(p, uint64(k+1)*page, perm)
	}
	w.grow(p, 7*page+100, rw)
	w.fillPages(p, 0x40)
	w.guard(p, 5)
	return w, p
}

// edges are addresses about the borders of pages, of the size and of what addresses there are.
func edges() []uint64 {
	var all []uint64
	for k := range uint64(9) {
		all = append(all, k*page-2, k*page-1, k*page, k*page+1, k*page+page/2)
	}
	all = append(all, 7*page+99, 7*page+100, 7*page+101)
	for _, top := range []uint64{1 << 12, 1 << 21, 1 << 30, 1<<38 - 3*page, 1<<38 - 2*page, 1<<38 - page, 1 << 38, 1 << 39, 1 << 40, 1 << 63, 1<<64 - 1<<38} {
		all = append(all, top-1, top, top+1)
	}
	return append(all, math.MaxUint64-page, math.MaxUint64-page+1, math.MaxUint64-7, math.MaxUint64-1, math.MaxUint64)
}

// lengths are numbers of bytes about the borders of pages, and beyond every memory.
func lengths() []int {
	return []int{0, 1, 2, 3, page / 2, page - 1, page, page + 1, 2*page - 1, 2 * page, 2*page + 1, 3 * page, 8 * page, 8*page + 1,
		math.MaxInt32, 1 << 38, math.MaxInt - page, math.MaxInt - 1, math.MaxInt}
}

func negative() []int { return []int{-1, -2, -page, math.MinInt32, math.MinInt, math.MinInt + 1} }

func TestInAndCanOutAtTheEdges(t *testing.T) {
	w, p := hollow(t)
	before := w.r.Image()
	read, written := 0, 0
	for _, va := range edges() {
		for _, n := range append(lengths(), negative()...) {
			if _, ok := w.in(p, va, n); ok {
				read++
			}
			if w.canOut(p, va, n) {
				written++
			}
		}
	}
	if read < 150 || written < 100 || read == written {
		t.Errorf("%d are readable, %d writable", read, written)
	}
	w.asked("looking", api.OK, api.OK, before)
	checkSame(t, w, before)
}

func checkSame(t *testing.T, w *world, before api.RamImage) {
	t.Helper()
	for k, f := range w.r.Image().Held {
		if f.Pa != before.Held[k].Pa || !bytes.Equal(f.Data, before.Held[k].Data) {
			t.Fatalf("the frame %x was turned", f.Pa)
		}
	}
}

// Of no bytes nothing is asked but whether the space is one.
func TestNoBytes(t *testing.T) {
	w, p := hollow(t)
	for _, va := range edges() {
		b, ok := p.s.In(va, 0)
		if b != nil || !ok || !p.s.CanOut(va, 0) || !p.s.Out(va, nil) || !p.s.Out(va, []byte{}) {
			t.Errorf("at %x: % x, %v", va, b, ok)
		}
		for _, none := range [][]byte{nil, {}} {
			truth(t, "Poke", p.s.Poke(va, none), va <= 7*page+100)
		}
	}
	w.check("no bytes")
}

func TestNegativeLengths(t *testing.T) {
	_, p := hollow(t)
	for _, n := range negative() {
		b, ok := p.s.In(0, n)
		text, isText := p.s.Str(0, n)
		if b != nil || ok || p.s.CanOut(0, n) || text != "" || isText {
			t.Errorf("of %d: % x, %v, %q, %v", n, b, ok, text, isText)
		}
	}
}

// All of b, or nothing of it: also where the first pages could be written.
func TestOutAtTheEdges(t *testing.T) {
	w, p := hollow(t)
	written := 0
	for k, va := range edges() {
		for _, n := range []int{1, 2, page - 1, page, page + 1, 2 * page, 2*page + 1} {
			if w.out(p, va, bytes.Repeat([]byte{byte(k), byte(n), 0xAA}, n)[:n]) {
				written++
			}
		}
	}
	if written < 40 {
		t.Errorf("%d are written", written)
	}
}

func TestOutAcrossPages(t *testing.T) {
	w, p := hollow(t)
	truth(t, "Out", w.out(p, page-3, []byte("across")), true)
	if b, ok := w.in(p, page-4, 8); !ok || string(b[1:7]) != "across" {
		t.Errorf("%q, %v", b, ok)
	}
	truth(t, "Out into what can be read alone", w.out(p, 2*page-3, []byte("across")), false)
	truth(t, "Out across a guard", w.out(p, 5*page-3, bytes.Repeat([]byte{1}, page+6)), false)
	truth(t, "Out behind the size, in the last page", w.out(p, 8*page-4, []byte("last")), true)
	truth(t, "Out beyond the last page", w.out(p, 8*page-3, []byte("last")), false)
}

// The kernel writes whatever the pages let, up to the size, which is not the pages' end.
func TestPokeAtTheEdges(t *testing.T) {
	w, p := hollow(t)
	written := 0
	for k, va := range edges() {
		for _, n := range []int{1, 2, 99, 100, 101, page - 1, page, page + 1, 7*page + 100, 7*page + 101} {
			if w.poke(p, va, bytes.Repeat([]byte{byte(k), byte(n), 0xBB}, n)[:n]) {
				written++
			}
		}
	}
	if written < 100 {
		t.Errorf("%d are written", written)
	}
	w.shrink(p, 0)
	truth(t, "Poke into nothing", w.poke(p, 0, []byte("x")), false)
	truth(t, "Poke of nothing into nothing", w.poke(p, 0, nil), true)
	truth(t, "Poke of nothing beyond nothing", w.poke(p, 1, nil), false)
}

func TestStr(t *testing.T) {
	w, p := hollow(t)
	for _, c := range []struct {
		va   uint64
		text string
	}{
		{0, "one"}, {10, ""}, {page - 4, "two"}, {page - 3, "three"}, {page - 1, "four"}, {page - 5, "five\x01"},
		{7 * page, strings.Repeat("long", 700)}, {6*page + 9, strings.Repeat("z", page+50)},
		{8*page - 6, "close"}, {200, "\xff\xfe\x01\x80 no text at all"},
	} {
		truth(t, "Out", w.out(p, c.va, []byte(c.text+"\x00")), true)
		n := len(c.text)
		for _, most := range []int{n + 1, n + 2, n + page, 1 << 40, math.MaxInt} {
			if got, ok := w.str(p, c.va, most); got != c.text || !ok {
				t.Errorf("Str(%x, %d) = %q, %v", c.va, most, got, ok)
			}
		}
		for _, most := range []int{n, n - 1, -n, 0} {
			if got, ok := w.str(p, c.va, most); got != "" || ok {
				t.Errorf("Str(%x, %d) = %q, %v", c.va, most, got, ok)
			}
		}
	}
}

// A text must end ahead of the first byte that can't be read; what stands behind its end is not asked for.
func TestStrAtTheEdges(t *testing.T) {
	w, p := hollow(t)
	for _, va := range []uint64{0, page - 1, 2*page + 5, 3*page - 1, 5*page - 2, 8*page - 1} {
		w.poke(p, va, []byte{0})
	}
	w.r.Store(pageFrame(p, 7)+page-1, 1, 0)
	p.m.pages[7].data[page-1] = 0
	found := 0
	for _, va := range edges() {
		for _, most := range append(lengths(), negative()...) {
			if _, ok := w.str(p, va, most); ok {
				found++
			}
		}
	}
	if found < 100 {
		t.Errorf("%d texts", found)
	}
	truth(t, "Out", w.out(p, 5*page-2, []byte("ab")), true)
	checkStr(t, p.s, 5*page-2, 3, "", false)
	w.out(p, 5*page-1, []byte{0})
	checkStr(t, p.s, 5*page-2, 3, "a", true)
	checkStr(t, p.s, 5*page-1, 1, "", true)
	checkStr(t, p.s, 5*page, 1, "", false)
	w.out(p, 8*page-2, []byte("ab"))
	checkStr(t, p.s, 8*page-2, math.MaxInt, "", false)
}

func pageFrame(p *pair, k int) uint64 {
	_, pages := p.s.Look()
	return pages[k].Frame
}

// The pages count, not the size: In and Out reach what is behind the size in the last page, Poke does not.
func TestPagesCountNotTheSize(t *testing.T) {
	w, p := begun(t, 32, 1)
	_, ok := w.in(p, 1, page-1)
	truth(t, "In", ok, true)
	truth(t, "Out", w.out(p, page-1, []byte("x")), true)
	truth(t, "CanOut", w.canOut(p, 0, page), true)
	truth(t, "CanOut", w.canOut(p, 0, page+1), false)
	truth(t, "Poke", w.poke(p, 1, []byte("x")), false)
	truth(t, "Poke", w.poke(p, 0, []byte("x")), true)
	if got, ok := w.str(p, page-1, 5); got != "" || ok {
		t.Errorf("Str = %q, %v", got, ok)
	}
}

// The trapframe and the trampoline can't be reached by any of these calls.
func TestHighestPagesAreOutOfReach(t *testing.T) {
	w, p := hollow(t)
	for _, va := range []uint64{api.TrapFrame, api.Tramp, api.UserTop} {
		for _, at := range []uint64{va - 1, va, va + 8, va + page - 1} {
			_, in := w.in(p, at, 1)
			_, str := w.str(p, at, page)
			if in || str || w.canOut(p, at, 1) || w.out(p, at, []byte{0}) || w.poke(p, at, []byte{0}) {
				t.Errorf("%x is reached", at)
			}
		}
	}
}

// Addresses do not wrap: what begins at the highest ones does not go on at 0.
func TestAddressesDoNotWrap(t *testing.T) {
	w, p := begun(t, 32, 2*page)
	for _, back := range []uint64{1, 2, 8, page - 1, page, page + 1} {
		va := -back
		for _, n := range []int{1, 2, int(back), int(back) + 1, int(back) + page, math.MaxInt} {
			_, in := w.in(p, va, n)
			if in || w.canOut(p, va, n) {
				t.Errorf("%d from %x on", n, va)
			}
		}
		if w.out(p, va, make([]byte, back+8)) || w.poke(p, va, make([]byte, back+8)) || w.poke(p, va, make([]byte, back)) {
			t.Errorf("written from %x on", va)
		}
		if _, ok := w.str(p, va, math.MaxInt); ok {
			t.Errorf("a text from %x on", va)
		}
	}
}

// P8.15: of several writings the last one holds, whoever made it.
func TestLastWritingHolds(t *testing.T) {
	w, p := begun(t, 32, 2*page)
	at := uint64(page + 40)
	for k, write := range []func(b []byte) bool{
		func(b []byte) bool { return p.s.Out(at, b) },
		func(b []byte) bool { return p.s.Poke(at, b) },
		func(b []byte) bool { return w.r.Write(pageFrame(p, 1)+40, b) },
		func(b []byte) bool { return p.s.Out(at, b) },
		func(b []byte) bool { return w.r.Store(pageFrame(p, 1)+40, 1, uint64(b[0])) },
		func(b []byte) bool { return p.s.Poke(at, b) },
	} {
		b := []byte{byte(k) + 0x81}
		truth(t, "written", write(b), true)
		if got, ok := p.s.In(at, 1); !ok || !bytes.Equal(got, b) {
			t.Errorf("writing %d: % x, %v", k, got, ok)
		}
	}
	c, _ := p.s.Copy(w.frame())
	if got, ok := c.In(at, 1); !ok || got[0] != 0x86 {
		t.Errorf("the copy: % x, %v", got, ok)
	}
}
