package kernel

import "hartix/api"

// tally counts the instructions of each process.
type tally struct {
	counts []api.PidSteps    // of all processes that there have been: a later one's pid is greater
	places [api.MaxProcs]int // where in counts the process in a slot stands
}

// begin begins to count for a new process.
func (t *tally) begin(slot, pid int) {
	t.places[slot] = len(t.counts)
	t.counts = append(t.counts, api.PidSteps{Pid: pid})
}

func (t *tally) count(slot int) { t.counts[t.places[slot]].Steps++ }

// told gives the counts of those who did something.
func (t *tally) told() []api.PidSteps {
	var told []api.PidSteps
	for _, c := range t.counts {
		if c.Steps > 0 {
			told = append(told, c)
		}
	}
	return told
}
