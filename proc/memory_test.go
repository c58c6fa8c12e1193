package proc_test

// DOC.md, Memory and One answer: what is handed in is not kept, what is handed out is new, and tables know nothing of each other.

import (
	"testing"

	"hartix/api"
	"hartix/proc"
)

func spoil(s *api.ProcTable) {
	s.Next = -77
	for slot := range s.Slots {
		s.Slots[slot] = api.Proc{Pid: -77, State: 77, Parent: 77, Chan: api.Chan{Kind: 77, N: 77}, Killed: true, Status: 77}
	}
}

func TestFromKeepsItsArgument(t *testing.T) {
	s := mixed()
	w := from(t, s)
	if s != mixed() {
		t.Fatal("what was handed in was changed")
	}
	w.add(0)
	w.end(4, 1)
	if s != mixed() {
		t.Fatal("a call changes what was handed in")
	}
	spoil(&s)
	w.check(call{name: "a spoilt argument"})
}

func TestStatesAreNew(t *testing.T) {
	w := from(t, mixed())
	one, two := w.p.State(), w.p.State()
	spoil(&one)
	if two != mixed() {
		t.Error("two states are one")
	}
	w.check(call{name: "a spoilt state"})
	w.add(0)
	w.kill(30)
	if two != mixed() {
		t.Error("a state changes with its table")
	}
}

// Two tables of one state go on by themselves.
func TestTwoTablesOfOneState(t *testing.T) {
	w := from(t, mixed())
	other, err := proc.From(w.p.State())
	if err != nil {
		t.Fatal(err)
	}
	w.add(0)
	w.sleep(0, timeAt(1))
	if other.State() != mixed() {
		t.Error("two tables are one")
	}
	other.End(0, 1)
	other.Kill(30)
	w.check(call{name: "calls of another table"})
}

// What only looks turns no answer behind it.
func TestLooksTurnNothing(t *testing.T) {
	one, two := begin(t), begin(t)
	s, same := scatter(5), scatter(5)
	for k := range 400 {
		for _, n := range slots() {
			two.p.Look(n)
			two.p.Pick(n)
			two.p.Zombie(n)
		}
		two.p.Room()
		two.p.State()
		if got, want := one.turn(&s, 30), two.turn(&same, 30); got != want || one.p.State() != two.p.State() {
			t.Fatalf("call %d: %s, %s", k, got, want)
		}
	}
}
