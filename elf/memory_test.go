package elf_test

// DOC.md, Memory, nil and empty.

import (
	"bytes"
	"reflect"
	"testing"

	"hartix/api"
	"hartix/elf"
)

// roomy gives bytes with room behind them, and the whole of it.
func roomy(data []byte) (piece, room []byte) {
	room = append(bytes.Clone(data), bytes.Repeat([]byte{0xA5}, 64)...)
	return room[:len(data)], room
}

func fill(b []byte, v byte) {
	b = b[:cap(b)]
	for k := range b {
		b[k] = v
	}
}

func TestWriteKeepsItsArgument(t *testing.T) {
	e, plain := three(), three()
	var rooms [][]byte
	for k := range e.Segs {
		piece, room := roomy(e.Segs[k].Data)
		e.Segs[k].Data = piece
		rooms = append(rooms, room)
	}
	more := append(e.Segs, api.Seg{Va: 1, Mem: 77})
	e.Segs = more[:3]
	b, err := elf.Write(e)
	if err != nil {
		t.Fatal(err)
	}
	want := bytes.Clone(b)
	fill(b, 0x5A)
	for k, room := range rooms {
		if n := len(plain.Segs[k].Data); !bytes.Equal(room[:n], plain.Segs[k].Data) || !bytes.Equal(room[n:], bytes.Repeat([]byte{0xA5}, 64)) {
			t.Errorf("segment %d: % x", k, room)
		}
	}
	if more[3].Va != 1 || more[3].Mem != 77 {
		t.Errorf("behind the segments: %+v", more[3])
	}
	c, err := elf.Write(e)
	if err != nil || !bytes.Equal(c, want) {
		t.Errorf("% x, %v", c, err)
	}
	for _, room := range rooms {
		fill(room, 0)
	}
	if !bytes.Equal(c, want) {
		t.Error("the file hangs on the program")
	}
	if n, err := elf.Pages(e); n != 5 || err != nil {
		t.Errorf("%d, %v", n, err)
	}
}

func TestReadKeepsItsArgument(t *testing.T) {
	plain := fileOf(three())
	b, room := roomy(plain)
	e, err := elf.Read(b)
	if err != nil {
		t.Fatal(err)
	}
	for k := range e.Segs {
		fill(e.Segs[k].Data, 0x5A)
	}
	if !bytes.Equal(b, plain) || !bytes.Equal(room[len(b):], bytes.Repeat([]byte{0xA5}, 64)) {
		t.Errorf("% x", room)
	}
	e, err = elf.Read(b)
	fill(room, 0)
	if err != nil || !reflect.DeepEqual(e, three()) {
		t.Errorf("%s, %v", told(e), err)
	}
}

// Bytes that are one in the file are apart in the program, and two programs share none.
func TestReadGivesNewLists(t *testing.T) {
	b := put(fileOf(three()), 64+56+8, 8, 64+3*56) // the second segment's bytes are the first's
	e, err := elf.Read(b)
	f, errF := elf.Read(b)
	if err != nil || errF != nil || !bytes.Equal(e.Segs[1].Data, []byte{1, 2, 3}) {
		t.Fatalf("%s, %v, %v", told(e), err, errF)
	}
	fill(e.Segs[0].Data, 0x5A)
	if !bytes.Equal(e.Segs[1].Data, []byte{1, 2, 3}) {
		t.Errorf("% x", e.Segs[1].Data)
	}
	fill(e.Segs[1].Data, 0x33)
	if !bytes.Equal(e.Segs[0].Data, bytes.Repeat([]byte{0x5A}, 8)) {
		t.Errorf("% x", e.Segs[0].Data)
	}
	clear(e.Segs[:cap(e.Segs)])
	if !bytes.Equal(f.Segs[0].Data, []byte{1, 2, 3, 4, 5, 6, 7, 8}) || !bytes.Equal(f.Segs[1].Data, []byte{1, 2, 3}) {
		t.Errorf("%s", told(f))
	}
}

// A refusal is new too.
func TestRefusalsAreNew(t *testing.T) {
	for _, ask := range []func() error{
		func() error { _, err := elf.Write(api.Elf{}); return err },
		func() error { _, err := elf.Read(nil); return err },
		func() error { _, err := elf.Pages(api.Elf{}); return err },
	} {
		first, ok := ask().(*api.Fault)
		if !ok {
			t.Fatal("no fault")
		}
		was := *first
		*first = api.Fault{Layer: "turned", At: 99}
		if second, ok := ask().(*api.Fault); !ok || *second != was {
			t.Errorf("%+v, not %+v", second, was)
		}
	}
}

func TestNilAndEmptyAreAlike(t *testing.T) {
	e, f := three(), three()
	e.Segs[2].Data, f.Segs[2].Data = nil, []byte{}
	a, errA := elf.Write(e)
	b, errB := elf.Write(f)
	if errA != nil || errB != nil || !bytes.Equal(a, b) {
		t.Errorf("% x, %v; % x, %v", a, errA, b, errB)
	}
	for _, none := range [][]byte{nil, {}} {
		_, err := elf.Read(none)
		if got := reasonOf(t, err); got != (reason{0, api.ErrElfShort}) {
			t.Errorf("%+v", got)
		}
	}
	for _, none := range [][]api.Seg{nil, {}} {
		_, err := elf.Write(api.Elf{Segs: none})
		if got := reasonOf(t, err); got != (reason{0, api.ErrElfSegs}) {
			t.Errorf("%+v", got)
		}
		n, err := elf.Pages(api.Elf{Segs: none})
		if got := reasonOf(t, err); n != 0 || got != (reason{0, api.ErrElfSegs}) {
			t.Errorf("%d, %+v", n, got)
		}
	}
}
