package census_test

// P17.6, and of P17.10 that it is an equivalence.

import (
	"reflect"
	"regexp"
	"testing"

	"hartix/api"
	"hartix/census"
)

// framesOnly are the ways to what Alike lets be.
var framesOnly = regexp.MustCompile(`^(\.Tramp|\.Procs\[\d+\]\.(Frame|Root|Nodes\[\d+\]|Pages\[\d+\]\.Frame)|\.Inodes\[\d+\]\.Blocks\[\d+\])$`)

// areAlike asks both ways round.
func areAlike(t *testing.T, what string, a, b api.OsLook, want bool) {
	t.Helper()
	if there, back := census.Alike(a, b), census.Alike(b, a); there != want || back != want {
		t.Errorf("%s: %v, %v, want %v", what, there, back, want)
	}
}

// TestEachPart turns each number and bool of a look, one by one.
func TestEachPart(t *testing.T) {
	l := sound().l
	areAlike(t, "itself", l, copied(l), true)
	frames, others := 0, 0
	for n := range partsOf(&l) {
		m := copied(l)
		p := partsOf(&m)[n]
		if isList(p.v) {
			continue
		}
		turn(p.v, 1)
		isFrame := framesOnly.MatchString(p.way)
		areAlike(t, p.way, l, m, isFrame)
		if isFrame {
			frames++
		} else {
			others++
		}
	}
	if frames != 1+4+4+18+5+5 || others < 300 {
		t.Errorf("%d frames, %d others", frames, others)
	}
}

// TestEachList takes the last element of each list away, and puts one more at its end.
func TestEachList(t *testing.T) {
	l := sound().l
	lists := 0
	for n := range partsOf(&l) {
		less, more := copied(l), copied(l)
		p, q := partsOf(&less)[n], partsOf(&more)[n]
		if !isList(p.v) {
			continue
		}
		lists++
		if p.v.Len() > 0 {
			p.v.Set(p.v.Slice(0, p.v.Len()-1))
			areAlike(t, p.way+" shorter", l, less, false)
		}
		q.v.Set(reflect.Append(q.v, reflect.Zero(q.v.Type().Elem())))
		areAlike(t, q.way+" longer", l, more, false)
	}
	if lists != 4+4*2+5+2+2 {
		t.Errorf("%d lists", lists)
	}
}

// TestOrderOfLists turns the first two elements of a list round.
func TestOrderOfLists(t *testing.T) {
	l := sound().l
	for n := range partsOf(&l) {
		m := copied(l)
		p := partsOf(&m)[n]
		if !isList(p.v) || p.v.Len() < 2 || p.v.Type().Elem().Kind() == reflect.Uint64 {
			continue
		}
		reflect.Swapper(p.v.Interface())(0, 1)
		areAlike(t, p.way, l, m, false)
	}
}

// emptied makes each list without an element nil, or empty.
func emptied(l api.OsLook, isNil bool) api.OsLook {
	l = copied(l)
	for _, p := range partsOf(&l) {
		if !isList(p.v) || p.v.Len() > 0 {
			continue
		}
		if isNil {
			p.v.SetZero()
		} else {
			p.v.Set(reflect.MakeSlice(p.v.Type(), 0, 3))
		}
	}
	return l
}

func TestNilAndEmpty(t *testing.T) {
	bare := api.OsLook{Procs: make([]api.ProcLook, 1), Inodes: make([]api.InodeLook, 1), Pipes: make([]api.PipeLook, 1)}
	for _, l := range []api.OsLook{{}, bare, sound().l} {
		areAlike(t, "nil and empty", emptied(l, true), emptied(l, false), true)
	}
	areAlike(t, "nothing and something", api.OsLook{}, bare, false)
}

// TestBytesApart has bytes that are the same but stand elsewhere.
func TestBytesApart(t *testing.T) {
	l, m := sound().l, sound().l
	l.Console = api.ConsoleState{Ready: []byte("ab"), Line: []byte("c")}
	m.Console = api.ConsoleState{Ready: []byte("a"), Line: []byte("bc")}
	areAlike(t, "the border between Ready and Line", l, m, false)
}

// TestEquivalence asks all rows of three looks of a drawn set.
func TestEquivalence(t *testing.T) {
	s := scatter(3)
	var looks []api.OsLook
	for range 60 {
		v := sound()
		for range s.below(3) {
			v.disturb(&s)
		}
		looks = append(looks, v.l)
	}
	alike := 0
	for i, a := range looks {
		if !census.Alike(a, copied(a)) {
			t.Errorf("look %d is not like itself", i)
		}
		for j, b := range looks {
			ab := census.Alike(a, b)
			if ab != census.Alike(b, a) {
				t.Errorf("looks %d and %d: one way alone", i, j)
			}
			if ab && i != j {
				alike++
			}
			for k, c := range looks {
				if ab && census.Alike(b, c) && !census.Alike(a, c) {
					t.Errorf("looks %d, %d, %d", i, j, k)
				}
			}
		}
	}
	if alike < 20 {
		t.Errorf("%d pairs are alike", alike)
	}
}
