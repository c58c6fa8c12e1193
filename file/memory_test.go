package file_test

// DOC.md, Memory: what is handed in is neither changed nor kept, what is handed out is new.

import (
	"bytes"
	"slices"
	"testing"

	"hartix/api"
)

func spoil(b []byte) {
	b = b[:cap(b)]
	for k := range b {
		b[k] ^= 0xFF
	}
}

func spoilChans(c []api.Chan) {
	c = c[:cap(c)]
	for k := range c {
		c[k] = api.Chan{Kind: 77, N: 77}
	}
}

func TestWriteKeepsItsArgument(t *testing.T) {
	for _, n := range []int{0, 1, 9, 511, 512, 513, 5000} {
		w := begin(t)
		w.piped()
		for _, f := range []int{1, w.opened(fileF), w.opened(terminal)} {
			room := w.fresh(n + 64)
			want := bytes.Clone(room)
			out := w.write(f, room[:n]).Out
			if !bytes.Equal(room, want) {
				t.Errorf("%d: what was handed in was changed", f)
			}
			spoil(room)
			w.check("a spoilt argument")
			if out != nil && !bytes.Equal(out, want[:n]) {
				t.Errorf("%d: what goes out is what was handed in", f)
			}
			spoil(out)
			for k := range room {
				if room[k] != want[k]^0xFF {
					t.Fatalf("%d: what goes out shares the memory of what was handed in", f)
				}
			}
		}
	}
}

// fullOf gives a table with bytes in a pipe, a file and the console.
func fullOf(t *testing.T) *world {
	w := begin(t)
	w.piped()
	w.write(1, w.fresh(100))
	w.keys("one\ntwo\nthree\n")
	w.opened(fileF)
	w.write(2, w.fresh(100))
	w.drop(2)
	w.opened(fileF)
	w.opened(terminal)
	return w
}

// answers makes every call that hands bytes out, on such a table.
func answers(w *world) (data [][]byte, wakes [][]api.Chan) {
	for _, f := range []int{0, 2, 3} {
		for _, n := range []int{2, 99} {
			peek, again, got := w.s.Peek(f, n), w.s.Peek(f, n), w.read(f, n)
			data = append(data, peek.Data, again.Data, got.Data)
			wakes = append(wakes, peek.Wake, again.Wake, got.Wake)
		}
	}
	w.write(1, w.fresh(50))
	one, _ := w.s.Pipes(0)
	two, _ := w.s.Pipes(0)
	data = append(data, one.State.Bytes, two.State.Bytes)
	for range 2 {
		data = append(data, w.write(3, []byte("printed")).Out)
		wakes = append(wakes, w.write(1, w.fresh(2)).Wake)
	}
	wake, _ := w.drop(0)
	wakes = append(wakes, wake)
	return data, wakes
}

// Of all answers none changes when another one is spoilt, and the table doesn't either.
func TestAnswersAreNew(t *testing.T) {
	bytesOf, wakesOf := answers(fullOf(t))
	for k := range max(len(bytesOf), len(wakesOf)) {
		w := fullOf(t)
		data, wakes := answers(w)
		wantData, wantWakes := make([][]byte, len(data)), make([][]api.Chan, len(wakes))
		for j := range data {
			wantData[j] = bytes.Clone(data[j])
		}
		for j := range wakes {
			wantWakes[j] = slices.Clone(wakes[j])
		}
		if k < len(data) {
			spoil(data[k])
		}
		if k < len(wakes) {
			spoilChans(wakes[k])
		}
		for j := range data {
			if j != k && !bytes.Equal(data[j], wantData[j]) {
				t.Errorf("the bytes of the answers %d and %d share memory", k, j)
			}
		}
		for j := range wakes {
			if j != k && !slices.Equal(wakes[j], wantWakes[j]) {
				t.Errorf("the wakes of the answers %d and %d share memory", k, j)
			}
		}
		w.check("a spoilt answer")
		w.drop(1)
		w.piped()
		w.write(1, []byte("ab"))
		w.read(0, 1)
		w.read(2, 99)
	}
}

// An answer stays as it is, whatever is done behind it.
func TestAnswersStay(t *testing.T) {
	w := fullOf(t)
	data, wakes := answers(w)
	want := make([][]byte, len(data))
	for j := range data {
		want[j] = bytes.Clone(data[j])
	}
	look := w.s.Look(2)
	was := look
	for range 3 {
		w.write(2, w.fresh(600))
		w.keys("more\n")
		w.read(3, 99)
		w.drop(1)
		w.piped()
		w.write(1, w.fresh(600))
		w.read(0, 300)
		w.drop(0)
	}
	for j := range data {
		if !bytes.Equal(data[j], want[j]) {
			t.Errorf("the answer %d changes", j)
		}
	}
	for j := range wakes {
		if len(wakes[j]) > 0 && wakes[j][0].N != 0 {
			t.Errorf("the wakes %d change", j)
		}
	}
	if look != was {
		t.Error("a look changes")
	}
}
