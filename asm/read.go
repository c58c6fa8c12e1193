package asm

import (
	"strconv"
	"strings"

	"hartix/api"
	"hartix/insn"
)

// operand is one that was read; which of its fields count hangs on its kind.
type operand struct {
	name     string // of a constant that is made
	regName  string
	register int
	sum      sum
	constant bool   // the sum is a constant expression
	value    uint64 // of the sum, once it is known
	bytes    []byte // of a text
}

// sum is an expression.
type sum []term

// term is a number, or, if it has a name, a symbol.
type term struct {
	minus  bool
	name   string
	number uint64
}

// value reckons modulo 2^64.
func (s sum) value(of func(name string) uint64) uint64 {
	var v uint64
	for _, t := range s {
		n := t.number
		if t.name != "" {
			n = of(t.name)
		}
		if t.minus {
			n = -n
		}
		v += n
	}
	return v
}

// read reads a row's operands; the registers' names are looked up behind the forms of all of them.
func (r row) read(texts []string) []operand {
	if len(texts) < len(r.parts) || len(texts) > len(r.parts) && !r.many {
		giveUp(api.ErrAsmForm)
	}
	var operands []operand
	for k, text := range texts {
		p := r.parts[min(k, len(r.parts)-1)]
		operands = append(operands, p.slot().read(text))
	}
	for k := range operands {
		operands[k].findRegister()
	}
	return operands
}

func (o *operand) findRegister() {
	if o.regName == "" {
		return
	}
	register, err := insn.Reg(o.regName)
	if err != nil {
		giveUp(api.ErrAsmReg)
	}
	o.register = register
}

func readName(text string) operand { return operand{name: asName(text)} }

func readRegister(text string) operand { return operand{regName: asName(text)} }

func readSum(text string) operand {
	r := reader{text}
	o := operand{sum: r.sum()}
	r.end()
	return o
}

func readConstant(text string) operand {
	o := readSum(text)
	o.constant = true
	return o
}

func readPlace(text string) operand {
	r := reader{text}
	var o operand
	if text[0] != '(' {
		o.sum = r.sum()
	}
	r.expect('(')
	r.blanks()
	o.regName = asName(r.word())
	r.blanks()
	r.expect(')')
	r.end()
	return o
}

func readText(text string) operand {
	r := reader{text}
	r.expect('"')
	var o operand
	for !r.take('"') {
		o.bytes = append(o.bytes, r.quoted('"'))
	}
	r.end()
	return o
}

// reader goes through an operand; what can't be read gives up.
type reader struct{ rest string }

func (r *reader) sum() sum {
	var s sum
	minus := r.take('-')
	for {
		r.blanks()
		t := r.term()
		t.minus = minus
		s = append(s, t)
		r.blanks()
		minus = r.take('-')
		if !minus && !r.take('+') {
			return s
		}
	}
}

func (r *reader) term() term {
	if r.take('\'') {
		t := term{number: uint64(r.quoted('\''))}
		r.expect('\'')
		return t
	}
	w := r.word()
	if isName(w) {
		return term{name: w}
	}
	return term{number: asNumber(w)}
}

func asNumber(s string) uint64 {
	digits, base := s, 10
	if hex, ok := strings.CutPrefix(s, "0x"); ok {
		digits, base = hex, 16
	} else if len(s) > 1 && s[0] == '0' {
		giveUp(api.ErrAsmForm)
	}
	n, err := strconv.ParseUint(digits, base, 64)
	if err != nil {
		giveUp(api.ErrAsmForm)
	}
	return n
}

// quoted reads a byte of a quoted piece; the piece's own quote stands in it behind a \ alone.
func (r *reader) quoted(quote byte) byte {
	b := r.next()
	if b == '\\' {
		return r.escaped(quote)
	}
	if b < 32 || b > 126 || b == quote {
		giveUp(api.ErrAsmForm)
	}
	return b
}

func (r *reader) escaped(quote byte) byte {
	b := r.next()
	switch {
	case b == 'n':
		return '\n'
	case b == 't':
		return '\t'
	case b == 'r':
		return '\r'
	case b == '0':
		return 0
	case b == '\\' || b == quote:
		return b
	case b == 'x' && quote == '"':
		return r.hexDigit()<<4 | r.hexDigit()
	}
	giveUp(api.ErrAsmForm)
	return 0
}

func (r *reader) hexDigit() byte {
	n, err := strconv.ParseUint(string(rune(r.next())), 16, 8)
	if err != nil {
		giveUp(api.ErrAsmForm)
	}
	return byte(n)
}

func (r *reader) next() byte {
	if r.rest == "" {
		giveUp(api.ErrAsmForm)
	}
	b := r.rest[0]
	r.rest = r.rest[1:]
	return b
}

func (r *reader) take(b byte) bool {
	if r.rest == "" || r.rest[0] != b {
		return false
	}
	r.rest = r.rest[1:]
	return true
}

func (r *reader) expect(b byte) {
	if !r.take(b) {
		giveUp(api.ErrAsmForm)
	}
}

func (r *reader) blanks() { r.rest = r.rest[behindBlanks(r.rest, 0):] }

func (r *reader) word() string {
	n := behindWord(r.rest, 0)
	w := r.rest[:n]
	r.rest = r.rest[n:]
	return w
}

func (r *reader) end() {
	if r.rest != "" {
		giveUp(api.ErrAsmForm)
	}
}
