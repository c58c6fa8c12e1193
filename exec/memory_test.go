package exec_test

// DOC.md, Memory: what is handed in is neither changed nor kept, what is handed out is new.

import (
	"bytes"
	"slices"
	"testing"

	"hartix/api"
	"hartix/exec"
)

// roomy gives bytes with room behind them, and the whole of it.
func roomy(data []byte) (piece, room []byte) {
	room = append(bytes.Clone(data), bytes.Repeat([]byte{0xA5}, 64)...)
	return room[:len(data)], room
}

// The file, the arguments and their list stay as they are, the room behind them too; and when they are spoiled, the space stays as it is.
func TestArgumentsAreNeitherChangedNorKept(t *testing.T) {
	w := newWorld(t, 64)
	data := ending(t, 3*page+10)
	file, room := roomy(data)
	texts := []string{"one", "", "three", "spare", "room"}
	args := texts[:3]
	checkDemand(t, file, args)
	l := w.begin(file, args...)
	w.load(file, args, first, first)
	w.load(file[1:], args, first, first)
	w.load(file, append(slices.Clone(args), "\x00"), first, first)
	if !bytes.Equal(room[:len(data)], data) || !bytes.Equal(room[len(data):], bytes.Repeat([]byte{0xA5}, 64)) {
		t.Error("the file was changed")
	}
	if !slices.Equal(texts, []string{"one", "", "three", "spare", "room"}) {
		t.Errorf("the arguments were changed: %q", texts)
	}
	l.m, _ = wantPlain(data, args)
	for k := range room {
		room[k] ^= 0xFF
	}
	clear(texts)
	w.check("what was handed in was spoiled")
}

// Two spaces of one file have no byte in common: what one program writes, the other does not see.
func TestSpacesShareNothing(t *testing.T) {
	w := newWorld(t, 64)
	file := ending(t, 3*page)
	one, two := w.begin(file, "same"), w.begin(file, "same")
	for k := range one.m.pages() {
		if !one.s.Poke(uint64(k)*page, bytes.Repeat([]byte{0x77}, page)) {
			t.Fatalf("page %d can't be written", k)
		}
	}
	w.all = []*loaded{two}
	w.checkPages("the other one was written", two)
	again, start, errno := exec.Load(w.r, file, []string{"same"}, two.trapframe, first)
	if errno != api.OK || start != two.m.start {
		t.Fatalf("%d, %+v", errno, start)
	}
	w.checkPages("a third one", &loaded{again, two.m, two.trapframe, first})
}
