package elf_test

import (
	"testing"

	"hartix/api"
	"hartix/elf"
)

// The chapter's examples.

func TestExample1(t *testing.T) {
	b, err := elf.Write(small())
	if err != nil || len(b) != 64+56+4 || b[32] != 64 || b[56] != 1 {
		t.Errorf("% x, %v", b, err)
	}
}

func TestExample2(t *testing.T) {
	for _, c := range []struct {
		turn func(e *api.Elf)
		want reason
	}{
		{func(e *api.Elf) { e.Entry = 4 }, reason{0, api.ErrElfEntry}},
		{func(e *api.Elf) { e.Segs[0].Mem = 3 }, reason{1, api.ErrElfSeg}},
		{func(e *api.Elf) { e.Segs = append(e.Segs, e.Segs[0]) }, reason{2, api.ErrElfOverlap}},
	} {
		e := small()
		c.turn(&e)
		b, err := elf.Write(e)
		if got := reasonOf(t, err); got != c.want || b != nil {
			t.Errorf("%+v, not %+v; % x", got, c.want, b)
		}
	}
}

func TestExample3(t *testing.T) {
	b, err := elf.Write(small())
	if err != nil {
		t.Fatal(err)
	}
	turned := append([]byte(nil), b...)
	turned[18] ^= 0xff
	for _, c := range []struct {
		file []byte
		want reason
	}{
		{turned, reason{18, api.ErrElfHead}},
		{b[:100], reason{32, api.ErrElfShort}},
		{b[:123], reason{64, api.ErrElfShort}},
	} {
		_, err := elf.Read(c.file)
		if got := reasonOf(t, err); got != c.want {
			t.Errorf("%+v, not %+v", got, c.want)
		}
	}
}
