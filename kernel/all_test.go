package kernel_test

// P16.6, and P16.7 of RunAll.

import (
	"reflect"
	"runtime"
	"slices"
	"testing"
	"time"

	"hartix/api"
	"hartix/kernel"
)

// long is a script that does n instructions.
func long(t *testing.T, n int) api.Script {
	s := script(t, "here: j here")
	s.Budget = n
	return s
}

// refused is a script that Boot refuses late, for what its first program is.
func refused(t *testing.T) api.Script {
	s := script(t, five)
	s.Init = "/none"
	return s
}

// oneByOne is what RunAll must answer where done is never closed.
func oneByOne(scripts []api.Script) []api.Report {
	var reports []api.Report
	for _, s := range scripts {
		r, err := kernel.Run(s)
		if err != nil {
			break
		}
		reports = append(reports, r)
	}
	return reports
}

// settled waits until no more goroutines are there than before. Those that RunAll began have ended when it answers; but the runtime may still count them for a moment.
func settled(t *testing.T, before int) {
	t.Helper()
	for range 200 {
		if runtime.NumGoroutine() <= before {
			return
		}
		time.Sleep(time.Millisecond)
	}
	t.Errorf("%d goroutines, %d before", runtime.NumGoroutine(), before)
}

func TestRunAllIsAsOneByOne(t *testing.T) {
	s := scatter(4)
	before := runtime.NumGoroutine()
	for round := range 40 {
		var scripts []api.Script
		for range s.below(40) {
			scripts = append(scripts, drawScript(t, &s))
		}
		for range round % 4 {
			if len(scripts) > 0 {
				scripts[s.below(len(scripts))] = refused(t)
			}
		}
		want := oneByOne(scripts)
		got, n := kernel.RunAll(scripts, nil)
		if n != len(want) || !reflect.DeepEqual(got, want) {
			t.Fatalf("of %d scripts: %d reports, %d, want %d", len(scripts), len(got), n, len(want))
		}
	}
	settled(t, before)
}

func TestRunAllOfNone(t *testing.T) {
	for _, scripts := range [][]api.Script{nil, {}} {
		if reports, n := kernel.RunAll(scripts, nil); reports != nil || n != 0 {
			t.Errorf("%v, %d", reports, n)
		}
	}
}

// TestRunAllByTheFirstRefused has one that is refused at each place, and another behind it.
func TestRunAllByTheFirstRefused(t *testing.T) {
	const all = 12
	for at := range all + 1 {
		var scripts []api.Script
		for i := range all {
			scripts = append(scripts, long(t, 100+i))
		}
		if at < all {
			scripts[at], scripts[all-1] = refused(t), refused(t)
		}
		reports, n := kernel.RunAll(scripts, nil)
		if n != at || len(reports) != at || (reports == nil) != (at == 0) {
			t.Fatalf("refused at %d: %d reports, %d", at, len(reports), n)
		}
		for i, r := range reports {
			if r.Halt != onBudget(100+i) {
				t.Errorf("the report at %d: %+v", i, r)
			}
		}
	}
}

// TestRunAllSlowAheadOfRefused has a long run ahead of one that is refused at once: it is run to its end.
func TestRunAllSlowAheadOfRefused(t *testing.T) {
	scripts := []api.Script{long(t, 100000), refused(t), long(t, 10), refused(t)}
	reports, n := kernel.RunAll(scripts, nil)
	if n != 1 || len(reports) != 1 || reports[0].Halt != onBudget(100000) {
		t.Errorf("%+v, %d", reports, n)
	}
}

const many = 1 << 20

// unit is a long run, and how long a quarter of it takes here.
func unit(t *testing.T) (api.Script, time.Duration) {
	t.Helper()
	begun := time.Now()
	if _, err := kernel.Run(long(t, many/4)); err != nil {
		t.Fatal(err)
	}
	return long(t, many), time.Since(begun)
}

// TestRunAllGivesUpBehindRefused has so much behind a refused one that it would take far longer.
func TestRunAllGivesUpBehindRefused(t *testing.T) {
	s, u := unit(t)
	scripts := []api.Script{refused(t)}
	for range 400 {
		scripts = append(scripts, s)
	}
	before, begun := runtime.NumGoroutine(), time.Now()
	reports, n := kernel.RunAll(scripts, nil)
	if took := time.Since(begun); reports != nil || n != 0 || took > 2*u {
		t.Errorf("%d reports, %d, in %v; a quarter of a run takes %v", len(reports), n, took, u)
	}
	settled(t, before)
}

func TestRunAllDoneAhead(t *testing.T) {
	done := make(chan struct{})
	close(done)
	for range 50 {
		reports, n := kernel.RunAll([]api.Script{long(t, 10), refused(t), long(t, 0)}, done)
		if reports != nil || n != 0 {
			t.Fatalf("%+v, %d", reports, n)
		}
	}
	if reports, n := kernel.RunAll(nil, done); reports != nil || n != 0 {
		t.Errorf("%+v, %d", reports, n)
	}
}

// TestRunAllSentIsNotClosed sends on done, which is no close; and closes one on which something was sent.
func TestRunAllSentIsNotClosed(t *testing.T) {
	scripts := []api.Script{long(t, 0), long(t, 500), long(t, 20)}
	for _, sent := range []int{0, 1, 2, 5, 100} {
		done := make(chan struct{}, 100)
		for range sent {
			done <- struct{}{}
		}
		if reports, n := kernel.RunAll(scripts, done); n != 3 || len(reports) != 3 {
			t.Errorf("%d sent: %+v, %d", sent, reports, n)
		}
		for len(done) < sent {
			done <- struct{}{}
		}
		close(done)
		if reports, n := kernel.RunAll(scripts, done); reports != nil || n != 0 {
			t.Errorf("%d sent, closed: %+v, %d", sent, reports, n)
		}
	}
}

// TestRunAllDoneAheadBootsFew has so many great machines that to boot all of them would take far longer.
func TestRunAllDoneAheadBootsFew(t *testing.T) {
	s := long(t, 10)
	s.Frames = api.MaxFrames
	begun := time.Now()
	for range 5 {
		if _, err := kernel.Boot(s); err != nil {
			t.Fatal(err)
		}
	}
	five, done := time.Since(begun), make(chan struct{})
	close(done)
	begun = time.Now()
	reports, n := kernel.RunAll(slices.Repeat([]api.Script{s}, 1000), done)
	if took := time.Since(begun); reports != nil || n != 0 || took > 10*five {
		t.Errorf("%d reports, %d, in %v; to boot five takes %v", len(reports), n, took, five)
	}
}

// TestRunAllOfRefused has many that are refused, at one time: what is told by a close is told once.
func TestRunAllOfRefused(t *testing.T) {
	scripts := slices.Repeat([]api.Script{refused(t)}, 3000)
	for range 30 {
		if reports, n := kernel.RunAll(scripts, nil); reports != nil || n != 0 {
			t.Fatalf("%+v, %d", reports, n)
		}
	}
}

// TestRunAllDoneMeanwhile closes done at several moments: what there is then are whole reports of the first scripts.
func TestRunAllDoneMeanwhile(t *testing.T) {
	s, u := unit(t)
	for round := range 4 {
		scripts := []api.Script{long(t, 100), script(t, five), script(t, exit(1))}
		for range 400 {
			scripts = append(scripts, s)
		}
		before, done := runtime.NumGoroutine(), make(chan struct{})
		closed := make(chan time.Time, 1)
		go func() {
			time.Sleep(time.Duration(round) * u / 3)
			closed <- time.Now()
			close(done)
		}()
		reports, n := kernel.RunAll(scripts, done)
		if took := time.Since(<-closed); took > 2*u {
			t.Errorf("it ended %v behind the close; a quarter of a run takes %v", took, u)
		}
		if n != len(reports) || n >= len(scripts) {
			t.Fatalf("%d reports, %d", len(reports), n)
		}
		if want := oneByOne(scripts[:min(n, 3)]); !reflect.DeepEqual(reports[:len(want):len(want)], want) && n > 0 {
			t.Errorf("the first reports: %+v, want %+v", reports, want)
		}
		for _, r := range reports[min(n, 3):] {
			if r.Halt != onBudget(many) {
				t.Errorf("a report that is not whole: %+v", r)
			}
		}
		settled(t, before)
	}
}

// TestRunAllDoneBehind closes done when all is over; a channel that is never closed does nothing.
func TestRunAllDoneBehind(t *testing.T) {
	done := make(chan struct{})
	reports, n := kernel.RunAll([]api.Script{long(t, 10), long(t, 20)}, done)
	close(done)
	if n != 2 || len(reports) != 2 {
		t.Errorf("%+v, %d", reports, n)
	}
}

// TestRunAllSideBySide runs RunAll several times at once, of the same scripts.
func TestRunAllSideBySide(t *testing.T) {
	s := scatter(5)
	var scripts []api.Script
	for range 20 {
		scripts = append(scripts, drawScript(t, &s))
	}
	want := oneByOne(scripts)
	answers := make(chan []api.Report)
	for range 6 {
		go func() {
			reports, _ := kernel.RunAll(scripts, nil)
			answers <- reports
		}()
	}
	for range 6 {
		if got := <-answers; !reflect.DeepEqual(got, want) {
			t.Errorf("%d reports, want %d", len(got), len(want))
		}
	}
}
