package pipe_test

// The chapter read a second time: a pipe that keeps all bytes that ever went through it, and counts without end.

import "hartix/api"

type plain struct {
	ever    []byte // all that were ever put, those at the beginning first
	taken   int    // how many of these were taken
	reads   int    // the count of reads at the beginning
	noRead  bool   // the reader's end is shut
	noWrite bool   // the writer's end is shut
}

const full = 512

func (m *plain) in() []byte { return m.ever[m.taken:] }

func (m *plain) put(b []byte) (int, int) {
	if len(b) == 0 {
		return 0, api.PipeDone
	}
	if m.noRead {
		return 0, api.PipeBroken
	}
	n := 0
	for n < len(b) && len(m.in()) < full {
		m.ever = append(m.ever, b[n])
		n++
	}
	if n == len(b) {
		return n, api.PipeDone
	}
	return n, api.PipeWait
}

func (m *plain) take(n int) ([]byte, int) {
	if n < 1 {
		return nil, api.PipeDone
	}
	var b []byte
	for len(b) < n && len(m.in()) > 0 {
		b = append(b, m.in()[0])
		m.taken++
	}
	if b == nil && !m.noWrite {
		return nil, api.PipeWait
	}
	return b, api.PipeDone
}

func (m *plain) shut(reader bool) {
	if reader {
		m.noRead = true
	} else {
		m.noWrite = true
	}
}

func (m *plain) state() api.PipeState {
	s := api.PipeState{Reads: modulo(m.reads + m.taken), Writes: modulo(m.reads + len(m.ever)), Reader: !m.noRead, Writer: !m.noWrite}
	if len(m.in()) > 0 {
		s.Bytes = append(s.Bytes, m.in()...)
	}
	return s
}

func modulo(n int) uint32 { return uint32(n % (1 << 32)) }
