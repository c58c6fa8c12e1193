package asm

import (
	"strings"
	"sync"

	"hartix/api"
)

const (
	dataAlign = 4096
	bssAlign  = 16
)

// assembler is a text that is being laid down.
type assembler struct {
	line       int // the one that is looked at, from 1 on; 0 ahead of all
	once       sync.Once
	rows       map[string]row
	symbols    table[symbol]
	section    int
	lengths    [wheres]uint64 // of the sections, as far as the first pass has come
	begins     [wheres]uint64 // their addresses, known behind the first pass
	statements []statement
	bytes      [wheres][]byte
}

// statement is what the second pass needs of a line, and the first one has found out.
type statement struct {
	line     int
	row      row
	operands []operand
	section  int
	at       uint64 // where it stands in its section
	size     uint64
}

func newAssembler() *assembler {
	return &assembler{section: inText, symbols: newTable[symbol](api.MaxSymbols)}
}

// firstPass finds out what each line is, and how long.
func (a *assembler) firstPass(text string) {
	for line := range strings.SplitSeq(text, "\n") {
		a.line++
		p := cut(line)
		s := statement{line: a.line, section: a.section, at: a.lengths[a.section]}
		if p.word != "" {
			s.row = a.rowOf(p.word)
			s.operands = s.row.read(p.operands)
		}
		a.claimLabels(p.labels)
		if p.word != "" {
			a.begin(s)
		}
	}
}

func (a *assembler) claimLabels(labels []string) {
	for _, name := range labels {
		a.claim(name, symbol{where: a.section, value: a.lengths[a.section]})
	}
}

func (a *assembler) claim(name string, s symbol) {
	if !a.symbols.add(name, s) {
		giveUp(api.ErrAsmSymbol)
	}
}

// begin goes on with a line whose operands are read and whose labels are there.
func (a *assembler) begin(s statement) {
	for _, o := range s.operands {
		if o.name != "" {
			a.claim(o.name, symbol{where: nowhere})
		}
	}
	for k := range s.operands {
		if o := &s.operands[k]; o.constant {
			o.value = o.sum.value(a.constant)
		}
	}
	s.size = s.row.first(a, &s)
	if !s.row.mayStand(s.section, s.at) {
		giveUp(api.ErrAsmSection)
	}
	a.lengths[s.section] += s.size
	if a.lengths[s.section] > api.MaxSection {
		giveUp(api.ErrAsmLong)
	}
	a.statements = append(a.statements, s)
}

// secondPass finds out the values, and lays each line down.
func (a *assembler) secondPass() {
	a.begins[inData] = roundUp(a.lengths[inText], dataAlign)
	a.begins[inBss] = roundUp(a.begins[inData]+a.lengths[inData], bssAlign)
	for _, s := range a.statements {
		a.line = s.line
		// All of a line's values ahead of its first range: a symbol that there is not is the greater fault.
		for k := range s.operands {
			if o := &s.operands[k]; !o.constant {
				o.value = o.sum.value(a.address)
			}
		}
		a.bytes[s.section] = append(a.bytes[s.section], s.row.lay(&s)...)
	}
}

// roundUp gives the first multiple of every that is not below n.
func roundUp(n, every uint64) uint64 { return (n + every - 1) / every * every }

func (a *assembler) image() api.Image {
	i := api.Image{
		Code:   a.bytes[inText],
		Data:   a.bytes[inData],
		DataAt: a.begins[inData],
		BssAt:  a.begins[inBss],
		Bss:    a.lengths[inBss],
	}
	if start, _ := a.symbols.find("_start"); start.where == inText {
		i.Entry = start.value
	}
	for _, name := range a.symbols.names() {
		i.Symbols = append(i.Symbols, api.Symbol{Name: name, Value: a.address(name)})
	}
	return i
}
