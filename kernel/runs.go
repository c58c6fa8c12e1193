package kernel

import (
	"sync"

	"hartix/api"
)

const (
	lookEvery  = 16 // how many steps a run does until it looks whether it is given up
	sideBySide = 8  // how many scripts run at one time: each has a memory of up to 16 MiB
)

// Run runs a script to its end (P16.5).
func Run(s api.Script) (api.Report, error) {
	m, err := Boot(s)
	if err != nil {
		return api.Report{}, err
	}
	m.toEnd(func() bool { return false })
	return m.report(), nil
}

// toEnd steps to the run's end; false: it was given up.
func (m *Machine) toEnd(isGivenUp func() bool) bool {
	for !isGivenUp() {
		for range lookEvery {
			if _, over := m.Step(); over {
				return true
			}
		}
	}
	return false
}

func (m *Machine) report() api.Report {
	return api.Report{Halt: m.halt, Output: m.Output(), Steps: m.tally.told()}
}

// RunAll runs scripts side by side (P16.6).
func RunAll(scripts []api.Script, done <-chan struct{}) ([]api.Report, int) {
	b := newBatch(scripts, done)
	b.begin()
	b.runs.Wait()
	reports := b.whole()
	return reports, len(reports)
}

// batch is scripts that run side by side.
type batch struct {
	scripts []api.Script
	reports []*api.Report   // each run writes its own; nil: there is none
	done    <-chan struct{} // closed: nobody is needed any more
	stops   []chan struct{} // one for each script; closed: one ahead of it was refused
	lock    sync.Mutex      // who has it may close stops
	needed  int             // how many stops are open: the first ones
	room    chan struct{}   // has as many elements as runs go on
	runs    sync.WaitGroup
}

func newBatch(scripts []api.Script, done <-chan struct{}) *batch {
	b := &batch{scripts: scripts, reports: make([]*api.Report, len(scripts)), done: done, needed: len(scripts), room: make(chan struct{}, sideBySide)}
	for range scripts {
		b.stops = append(b.stops, make(chan struct{}))
	}
	return b
}

// begin begins the runs in their order, each as soon as there is room for it, as long as they are needed.
func (b *batch) begin() {
	for at := range b.scripts {
		b.room <- struct{}{}
		if b.isGivenUp(at) {
			return
		}
		b.runs.Add(1)
		go b.run(at)
	}
}

// run runs one of the scripts.
func (b *batch) run(at int) {
	defer b.signOff()
	m, err := Boot(b.scripts[at])
	if err != nil {
		b.stopBehind(at)
		return
	}
	if m.toEnd(func() bool { return b.isGivenUp(at) }) {
		report := m.report()
		b.reports[at] = &report
	}
}

// signOff is a run's last deed.
func (b *batch) signOff() {
	<-b.room
	b.runs.Done()
}

// isGivenUp tells whether a script's report is not needed any more.
func (b *batch) isGivenUp(at int) bool { return isClosed(b.done) || isClosed(b.stops[at]) }

// isClosed tells whether a channel is closed. Only a close counts: what somebody has sent on it is let go.
func isClosed(c <-chan struct{}) bool {
	for range len(c) + 1 {
		select {
		case _, open := <-c:
			if !open {
				return true
			}
		default:
			return false
		}
	}
	return false
}

// stopBehind stops all behind a script that was refused.
func (b *batch) stopBehind(at int) {
	b.lock.Lock()
	defer b.lock.Unlock()
	for ; b.needed > at+1; b.needed-- {
		close(b.stops[b.needed-1])
	}
}

// whole gives the reports of the scripts ahead of the first that has none.
func (b *batch) whole() []api.Report {
	var reports []api.Report
	for _, report := range b.reports {
		if report == nil {
			break
		}
		reports = append(reports, *report)
	}
	return reports
}
