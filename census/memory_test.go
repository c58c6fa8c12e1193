package census_test

// DOC.md, Memory: what is handed in is neither changed nor kept, what is handed out is new.

import (
	"reflect"
	"slices"
	"testing"

	"hartix/api"
	"hartix/census"
)

// roomy gives each list of a look spare room in which something stands; and the lists with that room.
func roomy(l *api.OsLook) []reflect.Value {
	var lists []reflect.Value
	for _, p := range partsOf(l) {
		if !isList(p.v) {
			continue
		}
		n := p.v.Len()
		long := reflect.MakeSlice(p.v.Type(), n+2, n+2)
		reflect.Copy(long, p.v)
		p.v.Set(long.Slice(0, n))
	}
	for _, p := range partsOf(l) {
		if isList(p.v) {
			whole := p.v.Slice(0, p.v.Cap())
			for i := p.v.Len(); i < whole.Len(); i++ {
				parts(whole.Index(i), "", func(_ string, v reflect.Value) {
					if !isList(v) {
						turn(v, 85)
					}
				})
			}
			lists = append(lists, whole)
		}
	}
	return lists
}

func told(lists []reflect.Value) []any {
	var out []any
	for _, list := range lists {
		n := list.Len()
		other := reflect.MakeSlice(list.Type(), n, n)
		reflect.Copy(other, list)
		out = append(out, other.Interface())
	}
	return out
}

func TestNothingIsChanged(t *testing.T) {
	v := sound()
	lists := roomy(&v.l)
	free := append(slices.Clone(v.free), 5, 6)
	lists = append(lists, reflect.ValueOf(free))
	if len(lists) < 20 {
		t.Fatalf("%d lists", len(lists))
	}
	before := told(lists)
	if w := census.Take(v.frames, v.l, free[:3]).Wrong; w.Kind != api.WrongNone {
		t.Fatal(w)
	}
	for slot := range 64 {
		census.Reach(v.l, slot)
		census.Children(v.l, slot)
	}
	if !census.Alike(v.l, sound().l) {
		t.Error("not alike")
	}
	census.Worth(v.l.Procs[0])
	if !reflect.DeepEqual(told(lists), before) {
		t.Error("what was handed in is changed")
	}
}

// fill overwrites a list, its spare room too.
func fill[T any](list []T, with T) {
	list = list[:cap(list)]
	for i := range list {
		list[i] = with
	}
}

func TestAnswersAreNew(t *testing.T) {
	v := sound()
	one, two := census.Take(v.frames, v.l, v.free), census.Take(v.frames, v.l, v.free)
	fill(one.Files, num(8, 8, 8))
	if !slices.Equal(one.Inodes, two.Inodes) || !slices.Equal(one.Frames, two.Frames) {
		t.Error("Files shares memory")
	}
	fill(one.Inodes, num(7, 7, 7))
	if one.Files[0] != num(8, 8, 8) {
		t.Error("Inodes shares memory with Files")
	}
	fill(one.Frames, api.FrameOwn{Class: 77})
	if want := take(v.frames, v.l, v.free); !reflect.DeepEqual(two, want) || !reflect.DeepEqual(census.Take(v.frames, v.l, v.free), want) {
		t.Error("two answers share memory")
	}
}

func TestReachIsNew(t *testing.T) {
	v := sound()
	for i := range v.l.Procs[1].Pages {
		v.l.Procs[1].Pages[i].Perm = 0xff
	}
	before := copied(v.l)
	want := []uint64{at(13), at(14), at(15)}
	read, write, run := census.Reach(v.l, 2)
	again, _, _ := census.Reach(v.l, 2)
	lists := [][]uint64{read, write, run}
	for i, list := range lists {
		fill(list, uint64(i))
		for _, other := range append(lists[i+1:], again) {
			if !slices.Equal(other, want) {
				t.Errorf("%x, want %x", other, want)
			}
		}
	}
	one, two := census.Children(v.l, 0), census.Children(v.l, 0)
	fill(one, 9)
	if !slices.Equal(two, []int{2, 63}) || !reflect.DeepEqual(v.l, before) {
		t.Errorf("%v", two)
	}
}

// TestNothingIsKept asks for one system, then for another, then for the first again.
func TestNothingIsKept(t *testing.T) {
	v, w := sound(), whole(9)
	want := v.holdTake(t, "first")
	got := census.Take(v.frames, v.l, v.free)
	w.holdTake(t, "another")
	clear(v.free)
	clear(v.l.Procs)
	clear(v.l.Files)
	clear(v.l.Inodes)
	v = sound()
	if again := census.Take(v.frames, v.l, v.free); !reflect.DeepEqual(got, want) || !reflect.DeepEqual(again, want) {
		t.Errorf("%+v, %+v, want %+v", got, again, want)
	}
}
