package proc_test

// P13.11: states that are taken, states that are not and the place that is told, and tables that neither New nor From made.

import (
	"math"
	"testing"

	"hartix/api"
	"hartix/proc"
)

// brokenAt is the rules of From read a second time: rule by rule, the least slot of all that break one; -1, if there is none.
func brokenAt(s api.ProcTable) int {
	used := 0
	for _, p := range s.Slots {
		if p.State != api.ProcFree {
			used++
		}
	}
	if s.Next < 1 || s.Next > lastPid+1 || s.Next == 1 && used > 0 || s.Next != 1 && used == 0 {
		return 64
	}
	var broken [places]bool
	if p := s.Slots[0]; used > 0 && (p.State == api.ProcFree || p.Parent != 0 || p.Pid != 1) {
		broken[0] = true
	}
	owner := map[int]int{}
	for slot, p := range s.Slots {
		if p.State == api.ProcFree {
			broken[slot] = broken[slot] || p != api.Proc{}
			continue
		}
		if _, ok := owner[p.Pid]; ok || p.Pid < 1 || p.Pid > s.Next-1 {
			broken[slot] = true
		}
		owner[p.Pid] = slot
		broken[slot] = broken[slot] || isWrongParent(s, slot) || isWrongState(p)
	}
	for slot := range places {
		if broken[slot] {
			return slot
		}
	}
	return -1
}

func isWrongParent(s api.ProcTable, slot int) bool {
	n := s.Slots[slot].Parent
	if slot == 0 || n < 0 || n > 63 {
		return n != 0
	}
	parent := s.Slots[n]
	return parent.State == api.ProcFree || parent.Pid >= s.Slots[slot].Pid || parent.State == api.ProcZombie && n != 0
}

func isWrongState(p api.Proc) bool {
	on := p.Chan.Kind >= 1 && p.Chan.Kind <= 5 && p.Chan.N >= 0
	switch {
	case p.State < api.ProcRun || p.State > api.ProcZombie:
		return true
	case p.State == api.ProcSleep && (!on || p.Killed):
		return true
	case p.State != api.ProcSleep && p.Chan != api.Chan{}:
		return true
	}
	return p.State != api.ProcZombie && p.Status != 0
}

// judge asks From of a state, and tells the place that it told, -1 if it took it.
func judge(t *testing.T, s api.ProcTable) int {
	t.Helper()
	at := brokenAt(s)
	if at < 0 {
		from(t, s)
	} else {
		wantImageFault(t, s, at)
	}
	return at
}

// mixed is a state with all kinds of processes, in slots that don't rise with the pids, and free slots between.
func mixed() api.ProcTable {
	s := api.ProcTable{Next: 40}
	s.Slots[0] = api.Proc{Pid: 1, State: api.ProcRun}
	s.Slots[1] = api.Proc{Pid: 20, State: api.ProcRun, Parent: 4, Killed: true}
	s.Slots[2] = api.Proc{Pid: 30, State: api.ProcSleep, Parent: 1, Chan: timeAt(7)}
	s.Slots[4] = api.Proc{Pid: 5, State: api.ProcSleep, Chan: api.Chan{Kind: api.ChanChild, N: 4}}
	s.Slots[5] = api.Proc{Pid: 6, State: api.ProcZombie, Status: -1, Killed: true}
	s.Slots[9] = api.Proc{Pid: 31, State: api.ProcZombie, Parent: 2, Status: 4}
	s.Slots[62] = api.Proc{Pid: 10, State: api.ProcRun, Parent: 4}
	s.Slots[63] = api.Proc{Pid: 39, State: api.ProcRun, Parent: 62}
	return s
}

// ended is mixed behind the end of its first process.
func ended() api.ProcTable {
	s := mixed()
	s.Slots[0].State, s.Slots[0].Status = api.ProcZombie, 3
	return s
}

func bases(t *testing.T) []api.ProcTable {
	full := crowd(t)
	full.sleep(9, timeAt(1))
	full.end(40, 2)
	return []api.ProcTable{{Next: 1}, alone(2), alone(lastPid + 1), mixed(), ended(), full.p.State()}
}

// edit changes one field of a slot, or what belongs together.
type edit func(p *api.Proc)

func edits() []edit {
	var out []edit
	for _, n := range []int{math.MinInt, -1, 0, 1, 2, 5, 6, 9, 10, 11, 20, 30, 38, 39, 40, 41, 64, 65, lastPid, lastPid + 1, 1<<32 + 1, math.MaxInt} {
		out = append(out, func(p *api.Proc) { p.Pid = n })
	}
	for _, n := range []int{math.MinInt, -1, 0, 1, 2, 3, 4, 5, 9, 31, 40, 62, 63, 64, 1 << 32, math.MaxInt} {
		out = append(out, func(p *api.Proc) { p.Parent = n })
	}
	for _, n := range []int{math.MinInt, -1, 0, 1, 2, 3, 4, 5, 1 << 32, 1<<32 + 1, math.MaxInt} {
		out = append(out, func(p *api.Proc) { p.State = n })
		out = append(out, func(p *api.Proc) { p.State, p.Chan = n, api.Chan{} })
		out = append(out, func(p *api.Proc) { p.State, p.Chan, p.Killed = n, timeAt(2), false })
	}
	good, bad := channels()
	for _, c := range []api.Chan{{}, good[0], good[3], good[len(good)-1], bad[0], bad[len(bad)-1], {Kind: 6}, {Kind: 1, N: -1}, {N: 1}, {Kind: 5, N: 0}} {
		out = append(out, func(p *api.Proc) { p.Chan = c })
	}
	for _, status := range []int32{0, 1, -1, math.MaxInt32, math.MinInt32} {
		out = append(out, func(p *api.Proc) { p.Status = status })
	}
	return append(out, func(p *api.Proc) { p.Killed = !p.Killed }, func(p *api.Proc) { *p = api.Proc{} })
}

func TestFromByField(t *testing.T) {
	for _, s := range bases(t) {
		if judge(t, s) >= 0 {
			t.Fatalf("no state:\n%s", told(s))
		}
		for slot := range places {
			if s.Slots[slot] == (api.Proc{}) && slot%7 > 1 && slot < 60 { // of the free slots some are enough
				continue
			}
			for _, change := range edits() {
				other := s
				change(&other.Slots[slot])
				judge(t, other)
			}
		}
		for _, next := range []int{math.MinInt, -1, 0, 1, 2, 3, 39, 40, 64, 65, 66, lastPid, lastPid + 1, lastPid + 2, 1<<32 + 40, math.MaxInt} {
			s.Next = next
			judge(t, s)
		}
	}
}

// Several fields at once: the first of all that is broken is told.
func TestFromBySeveralFields(t *testing.T) {
	r := scatter(11)
	from, all := bases(t), edits()
	seen := map[int]int{}
	for range 6000 {
		s := pick(&r, from...)
		for range 1 + r.below(3) {
			pick(&r, all...)(&s.Slots[pick(&r, 0, 1, 2, 3, 4, 5, 9, 62, 63, r.below(places))])
		}
		if r.below(10) == 0 {
			s.Next = pick(&r, 0, 1, 2, 40, lastPid+1, lastPid+2)
		}
		seen[judge(t, s)]++
	}
	for _, at := range []int{-1, 0, 1, 2, 3, 4, 5, 9, 62, 63, 64} {
		if seen[at] < 10 {
			t.Errorf("the place %d came %d times", at, seen[at])
		}
	}
}

// refused is one broken state: mixed, with a change.
type refused struct {
	at     int
	change func(s *api.ProcTable)
}

// What the chapter refuses, written out.
func TestFromRefuses(t *testing.T) {
	for k, r := range []refused{
		{64, func(s *api.ProcTable) { s.Next = 0 }},
		{64, func(s *api.ProcTable) { s.Next = -1 }},
		{64, func(s *api.ProcTable) { s.Next = 1 }},
		{64, func(s *api.ProcTable) { s.Next = lastPid + 2 }},
		{64, func(s *api.ProcTable) { *s = api.ProcTable{} }},
		{64, func(s *api.ProcTable) { *s = api.ProcTable{Next: 2} }},
		{64, func(s *api.ProcTable) { *s = api.ProcTable{Next: 2}; s.Slots[7].Pid = 1 }}, // free, whatever else it is
		{64, func(s *api.ProcTable) { s.Next = 0; s.Slots[0].Parent = 1 }},
		{7, func(s *api.ProcTable) { *s = api.ProcTable{Next: 1}; s.Slots[7].Pid = 1 }},
		{0, func(s *api.ProcTable) { s.Slots[0] = api.Proc{} }},
		{0, func(s *api.ProcTable) { s.Slots[0].State = api.ProcFree }},
		{0, func(s *api.ProcTable) { s.Slots[0].Parent = 4 }},
		{0, func(s *api.ProcTable) { s.Slots[0].Pid = 2 }},
		{0, func(s *api.ProcTable) { s.Slots[0].State = 4 }},
		{3, func(s *api.ProcTable) { s.Slots[3].Pid = 2 }},
		{3, func(s *api.ProcTable) { s.Slots[3].Status = 1 }},
		{3, func(s *api.ProcTable) { s.Slots[3].Killed = true }},
		{3, func(s *api.ProcTable) { s.Slots[3].Parent = 4 }},
		{3, func(s *api.ProcTable) { s.Slots[3].Chan.N = 1 }},
		{3, func(s *api.ProcTable) { s.Slots[3] = api.Proc{State: 4} }},
		{1, func(s *api.ProcTable) { s.Slots[1].Pid = 1 }},
		{2, func(s *api.ProcTable) { s.Slots[2].Pid = 20 }}, // the later one of two, and the parent's too
		{62, func(s *api.ProcTable) { s.Slots[62].Pid = 6 }},
		{4, func(s *api.ProcTable) { s.Slots[4].Pid = 0 }},
		{1, func(s *api.ProcTable) { s.Slots[1].Pid = 0; s.Slots[4].Pid = -9 }}, // though of its parent a lesser one
		{63, func(s *api.ProcTable) { s.Slots[63].Pid = 40 }},
		{63, func(s *api.ProcTable) { s.Next = 39 }},
		{1, func(s *api.ProcTable) { s.Slots[1].Parent = 3 }},    // free
		{1, func(s *api.ProcTable) { s.Slots[1].Parent = 2 }},    // of a greater pid
		{1, func(s *api.ProcTable) { s.Slots[1].Parent = 1 }},    // itself
		{1, func(s *api.ProcTable) { s.Slots[1].Parent = 5 }},    // a zombie
		{1, func(s *api.ProcTable) { s.Slots[1].Parent = 64 }},   // none
		{1, func(s *api.ProcTable) { s.Slots[1].Parent = -1 }},   // none
		{1, func(s *api.ProcTable) { s.Slots[4].State = 0 }},     // the parent of slot 1 is free, though not all zero
		{4, func(s *api.ProcTable) { s.Slots[4].State = 7 }},     // the parent of slot 1 is not free
		{4, func(s *api.ProcTable) { s.Slots[4].Pid = -9 }},      // the parent of slot 1 has a lesser pid
		{2, func(s *api.ProcTable) { s.Slots[2].Killed = true }}, // it sleeps
		{2, func(s *api.ProcTable) { s.Slots[2].Chan = api.Chan{} }},
		{2, func(s *api.ProcTable) { s.Slots[2].Chan.N = -1 }},
		{2, func(s *api.ProcTable) { s.Slots[2].Chan.Kind = 6 }},
		{2, func(s *api.ProcTable) { s.Slots[2].Status = 1 }},
		{1, func(s *api.ProcTable) { s.Slots[1].Status = 1 }},
		{1, func(s *api.ProcTable) { s.Slots[1].Chan = timeAt(1) }},
		{5, func(s *api.ProcTable) { s.Slots[5].Chan = timeAt(1) }},
	} {
		s := mixed()
		r.change(&s)
		if at := brokenAt(s); at != r.at {
			t.Fatalf("%d: read a second time the place is %d, want %d", k, at, r.at)
		}
		wantImageFault(t, s, r.at)
	}
}

func TestFromTakes(t *testing.T) {
	for _, s := range bases(t) {
		w := from(t, s)
		if w.p.State() != s {
			t.Errorf("From of\n%sis\n%s", told(s), told(w.p.State()))
		}
		w.renew()
	}
	for _, next := range []int{2, 3, lastPid, lastPid + 1} {
		from(t, alone(next))
	}
	// A first process that has ended may have children that run, and such as were killed.
	s := alone(lastPid + 1)
	s.Slots[0] = api.Proc{Pid: 1, State: api.ProcZombie, Killed: true, Status: math.MinInt32}
	s.Slots[63] = api.Proc{Pid: lastPid, State: api.ProcRun, Killed: true}
	from(t, s)
}

// Each refusal has a fault of its own.
func TestFaultsAreNew(t *testing.T) {
	_, one := proc.From(api.ProcTable{})
	one.(*api.Fault).At = 77
	wantImageFault(t, api.ProcTable{}, 64)
}

func TestTablesThatNobodyMade(t *testing.T) {
	good, bad := channels()
	for _, p := range []*proc.Table{nil, {}, new(proc.Table)} {
		for range 2 {
			for _, n := range slots() {
				wantAdd(t, p, n, -1, -1, api.ErrZero)
				wantPick(t, p, n, -1, false)
				wantZombie(t, p, n, -1, false)
				wantEnd(t, p, n, int32(n), false, api.ErrZero)
				wantErrno(t, "WakeOne", p.WakeOne(n), api.ErrZero)
				wantErrno(t, "Kill", p.Kill(n), api.ErrZero)
				wantErrno(t, "Free", p.Free(n), api.ErrZero)
				wantErrno(t, "Sleep", p.Sleep(n, timeAt(1)), api.ErrZero)
				if p.Look(n) != (api.Proc{}) {
					t.Errorf("Look(%d) = %+v", n, p.Look(n))
				}
			}
			for _, c := range append(good, bad...) {
				wantErrno(t, "Sleep", p.Sleep(0, c), api.ErrZero)
				if p.Wake(c) != 0 {
					t.Errorf("Wake(%v) wakes", c)
				}
			}
			if p.Room() || p.State() != (api.ProcTable{}) {
				t.Error("room, or a state")
			}
		}
		if p != nil && *p != (proc.Table{}) {
			t.Errorf("%+v", *p)
		}
	}
}
