package engine

import (
	"bytes"
	"errors"
	"strconv"

	"hartix/api"
)

// refused tells the chain of what was refused, the outermost layer first.
func refused(err error) string {
	words := []string{"refused"}
	var fault *api.Fault
	for errors.As(err, &fault) {
		words = append(words, fault.Layer, strconv.Itoa(fault.At))
		err = fault.Unwrap()
	}
	var errno api.Errno
	if errors.As(err, &errno) {
		words = append(words, "errno", strconv.Itoa(int(errno)))
	}
	var w writer
	w.line(words...)
	return w.text.String()
}

// told tells what came out of a run.
func told(r api.Report) string {
	var w writer
	w.output(r.Output)
	for _, p := range r.Steps {
		w.line("pid", strconv.Itoa(p.Pid), "steps", strconv.Itoa(p.Steps))
	}
	w.halt(r.Halt)
	return w.text.String()
}

// output writes what was printed: a line ends behind a line feed, or where it is full.
func (w *writer) output(printed []byte) {
	for len(printed) > 0 {
		some := printed[:min(len(printed), api.MaxTold)]
		if at := bytes.IndexByte(some, '\n'); at >= 0 {
			some = some[:at+1]
		}
		w.line("out", quote(string(some)))
		printed = printed[len(some):]
	}
}

func (w *writer) halt(h api.Halt) {
	words := []string{"halt"}
	switch h.Code {
	case api.HaltBudget:
		words = append(words, "budget")
	case api.HaltExit:
		words = append(words, "exit", strconv.Itoa(int(h.Status)))
	case api.HaltIdle:
		words = append(words, "idle")
	}
	w.line(append(words, "at", strconv.Itoa(h.Step))...)
}
