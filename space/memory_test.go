package space_test

// DOC.md, Memory: what is handed in is neither changed nor kept, what is handed out is new.

import (
	"bytes"
	"testing"

	"hartix/api"
)

// roomy gives bytes with room behind them, and the whole of it.
func roomy(data []byte) (piece, room []byte) {
	room = append(bytes.Clone(data), bytes.Repeat([]byte{0xA5}, 64)...)
	return room[:len(data)], room
}

func spoil(b []byte) {
	b = b[:cap(b)]
	for k := range b {
		b[k] ^= 0xFF
	}
}

func TestWritingKeepsItsArgument(t *testing.T) {
	_, p := begun(t, 32, 3*page)
	for _, n := range []int{0, 1, 9, page, page + 1, 2 * page} {
		for _, write := range []func(uint64, []byte) bool{p.s.Out, p.s.Poke} {
			data := bytes.Repeat([]byte{1, 2, 3}, n)[:n]
			b, room := roomy(data)
			truth(t, "written", write(page-1, b), true)
			write(3*page-1, b)
			if !bytes.Equal(room[:n], data) || !bytes.Equal(room[n:], bytes.Repeat([]byte{0xA5}, 64)) {
				t.Errorf("%d bytes: what was handed in was changed", n)
			}
			spoil(room)
			if got, ok := p.s.In(page-1, n); !ok || !bytes.Equal(got, data) {
				t.Errorf("%d bytes: what was handed in was kept", n)
			}
		}
	}
}

func TestBytesHandedOutAreNew(t *testing.T) {
	w, p := begun(t, 32, 3*page)
	w.fillPages(p, 0x5B)
	for _, n := range []int{1, 9, page, page + 1, 3 * page} {
		one, _ := p.s.In(0, n)
		two, _ := p.s.In(0, n)
		want := bytes.Clone(two)
		spoil(one)
		if !bytes.Equal(two, want) {
			t.Errorf("%d bytes: two answers share memory", n)
		}
		w.check("an answer was written into")
	}
}

func TestListsHandedOutAreNew(t *testing.T) {
	w, p := begun(t, 32, 3*page)
	nodes, pages := p.s.Look()
	others, too := p.s.Look()
	wantNodes, wantPages := append([]uint64{}, others...), append([]api.PageLook{}, too...)
	clear(nodes[:cap(nodes)])
	clear(pages[:cap(pages)])
	for k := range others {
		if others[k] != wantNodes[k] {
			t.Errorf("two answers share nodes: %x", others)
		}
	}
	for k := range too {
		if too[k] != wantPages[k] {
			t.Errorf("two answers share pages: %+v", too)
		}
	}
	w.check("an answer was written into")
}

// A text that was given stays, whatever becomes of the bytes it was read from.
func TestTextIsNew(t *testing.T) {
	w, p := begun(t, 32, page)
	w.out(p, 0, []byte("before\x00"))
	text, _ := p.s.Str(0, 20)
	w.out(p, 0, []byte("behind\x00"))
	w.free(p)
	if text != "before" {
		t.Errorf("%q", text)
	}
}
