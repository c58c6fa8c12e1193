package console_test

// The chapter read a second time: a console of two rows, and nothing cleverer.

import "hartix/api"

type plain struct {
	ready []byte
	line  []byte
}

const full = 128

func (m *plain) all() int { return len(m.ready) + len(m.line) }

func (m *plain) typed(b byte) ([]byte, bool) {
	if b == 0x15 {
		var echo []byte
		for len(m.line) > 0 {
			m.line = m.line[:len(m.line)-1]
			echo = append(echo, 0x08, 0x20, 0x08)
		}
		return echo, false
	}
	if b == 0x08 || b == 0x7F {
		if len(m.line) == 0 {
			return nil, false
		}
		m.line = m.line[:len(m.line)-1]
		return []byte{0x08, 0x20, 0x08}, false
	}
	if b == 0 || m.all() == full {
		return nil, false
	}
	if b == 0x0D {
		b = 0x0A
	}
	m.line = append(m.line, b)
	var echo []byte
	if b != 0x04 {
		echo = []byte{b}
	}
	if b != 0x0A && b != 0x04 && m.all() < full {
		return echo, false
	}
	m.ready = append(m.ready, m.line...)
	m.line = nil
	return echo, true
}

// first tells what a Take gives, and what is ready behind it.
func (m *plain) first(n int) (b []byte, ok bool, rest []byte) {
	if len(m.ready) == 0 {
		return nil, false, nil
	}
	if n < 1 {
		return nil, true, m.ready
	}
	if m.ready[0] == 0x04 {
		return nil, true, m.ready[1:]
	}
	rest = m.ready
	for len(b) < n && len(rest) > 0 && rest[0] != 0x04 {
		b, rest = append(b, rest[0]), rest[1:]
		if b[len(b)-1] == 0x0A {
			break
		}
	}
	return b, true, rest
}

func (m *plain) take(n int) ([]byte, bool) {
	b, ok, rest := m.first(n)
	m.ready = rest
	return b, ok
}

func (m *plain) peek(n int) ([]byte, bool) {
	b, ok, _ := m.first(n)
	return b, ok
}

func (m *plain) state() api.ConsoleState {
	return api.ConsoleState{Ready: newOrNil(m.ready), Line: newOrNil(m.line)}
}

func newOrNil(b []byte) []byte { return append([]byte(nil), b...) }

// canBe tells P11.5's refusals, one by one.
func canBe(s api.ConsoleState) bool {
	if len(s.Ready)+len(s.Line) > full {
		return false
	}
	for _, b := range s.Ready {
		switch b {
		case 0, 0x08, 0x0D, 0x15, 0x7F:
			return false
		}
	}
	for _, b := range s.Line {
		switch b {
		case 0, 0x08, 0x0D, 0x15, 0x7F, 0x0A, 0x04:
			return false
		}
	}
	return len(s.Ready)+len(s.Line) < full || len(s.Line) == 0
}
