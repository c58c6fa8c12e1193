package census_test

// Looks that are drawn: a sound one with some things turned, beside the second reading.

import (
	"math"
	"reflect"
	"strings"
	"testing"

	"hartix/api"
	"hartix/census"
)

// drawPart draws a part of the look; registers, of which there are most, come seldom.
func (v *seen) drawPart(s *scatter) part {
	all := partsOf(&v.l)
	p := all[s.below(len(all))]
	for strings.Contains(p.way, ".Regs.") && s.below(10) > 0 {
		p = all[s.below(len(all))]
	}
	return p
}

// disturb turns one drawn thing.
func (v *seen) disturb(s *scatter) {
	p := v.drawPart(s).v
	switch {
	case isList(p):
		disturbList(s, p)
	case p.Kind() == reflect.Bool:
		p.SetBool(!p.Bool())
	case p.CanInt():
		p.SetInt(pick(s, p.Int()+1, p.Int()-1, -1, 0, int64(s.below(8)), int64(s.below(220)), math.MinInt16, math.MaxInt16, 1<<40, math.MaxInt64))
	default:
		p.SetUint(pick(s, p.Uint()+1, p.Uint()-1, p.Uint()+4096, p.Uint()-4096, 0, at(s.below(40)), at(s.below(40)), math.MaxUint64))
	}
}

// disturbList takes an element away, doubles one, or turns two round.
func disturbList(s *scatter, p reflect.Value) {
	n := p.Len()
	if n == 0 {
		p.Set(reflect.Append(p, reflect.Zero(p.Type().Elem())))
		return
	}
	i, j := s.below(n), s.below(n)
	switch s.below(4) {
	case 0:
		p.Set(reflect.AppendSlice(p.Slice3(0, i, i), p.Slice(i+1, n)))
	case 1:
		p.Set(reflect.Append(p.Slice3(0, n, n), p.Index(i)))
	case 2:
		reflect.Swapper(p.Interface())(i, j)
	case 3:
		p.Index(i).Set(p.Index(j))
	}
}

// disturbFree turns something of the free list, or the number of frames.
func (v *seen) disturbFree(s *scatter) {
	switch s.below(5) {
	case 0:
		v.frames += s.below(3) - 1
	case 1:
		v.frames = pick(s, 0, 1, -5, 4096, 4097)
	case 2:
		v.free = nil
	case 3:
		v.free = append(v.free, at(s.below(40)))
	case 4:
		if len(v.free) > 0 {
			v.free[s.below(len(v.free))] = pick(s, at(s.below(40)), s.next())
		}
	}
}

// holdAll holds all calls against the second reading.
func (v seen) holdAll(t *testing.T, what string) api.Wrong {
	t.Helper()
	for slot := -1; slot <= 64; slot++ {
		read, write, run := census.Reach(v.l, slot)
		if got, want := [3][]uint64{read, write, run}, reach(v.l, slot); !reflect.DeepEqual(got, want) {
			t.Fatalf("%s: Reach(%d) %x, want %x", what, slot, got, want)
		}
		if got, want := census.Children(v.l, slot), children(v.l, slot); !reflect.DeepEqual(got, want) {
			t.Fatalf("%s: Children(%d) %v, want %v", what, slot, got, want)
		}
	}
	return v.holdTake(t, what).Wrong
}

func TestDrawn(t *testing.T) {
	s := scatter(1)
	var kinds [api.WrongPages + 1]int
	for range 10000 {
		v := sound()
		for range s.below(4) {
			v.disturb(&s)
		}
		if s.below(8) == 0 {
			v.disturbFree(&s)
		}
		kinds[v.holdAll(t, "drawn").Kind]++
	}
	for kind, n := range kinds {
		if n < 20 {
			t.Errorf("kind %d came %d times", kind, n)
		}
	}
}

// TestDrawnByKind turns one thing that is no frame, so that the later checks are come to.
func TestDrawnByKind(t *testing.T) {
	s := scatter(2)
	var kinds [api.WrongPages + 1]int
	for range 6000 {
		v := sound()
		for range 1 + s.below(2) {
			p := v.drawPart(&s)
			if !isList(p.v) && !framesOnly.MatchString(p.way) && p.way != ".Free" {
				turn(p.v, pick(&s, 1, -1, 2, 4096))
			}
		}
		kinds[v.holdTake(t, "drawn").Wrong.Kind]++
	}
	for _, kind := range []int{api.WrongNone, api.WrongProc, api.WrongPages, api.WrongFd, api.WrongFile, api.WrongInode, api.WrongPipe} {
		if kinds[kind] < 100 {
			t.Errorf("kind %d came %d times", kind, kinds[kind])
		}
	}
}

// TestBigLooks has lists that no system has: each call ends soon.
func TestBigLooks(t *testing.T) {
	const many = 100000
	v := seen{frames: 4096, l: api.OsLook{Tramp: base, NextPid: math.MaxInt}}
	for i := range many {
		v.l.Procs = append(v.l.Procs, api.ProcLook{Slot: i, Pid: i + 1, State: 1, Parent: many - 1 - i, Frame: at(i % 4096)})
		v.l.Files = append(v.l.Files, api.FileLook{Num: i, Kind: api.FileIno, Ino: i})
		v.l.Inodes = append(v.l.Inodes, api.InodeLook{Ino: i, Blocks: []uint64{at(i % 4096)}})
		v.l.Pipes = append(v.l.Pipes, api.PipeLook{Num: i})
		v.free = append(v.free, at(i%4096))
	}
	got := census.Take(v.frames, v.l, v.free)
	if got.Wrong != (api.Wrong{Kind: api.WrongShared, N: 0}) || len(got.Files) != many || got.Files[0].Named != 16*many || got.Frames[1].Times < 3*24 {
		t.Errorf("%v, %d files, %v", got.Wrong, len(got.Files), got.Frames[:3])
	}
	if !census.Alike(v.l, copied(v.l)) || len(census.Children(v.l, 5)) != 1 {
		t.Error("Alike, Children")
	}
}
