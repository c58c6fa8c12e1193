package engine

import (
	"strings"

	"hartix/api"
)

// anyNumber is how many words a line has at most that may have any number of them: a text has no more bytes.
const anyNumber = api.MaxEngine

// row is a kind of line: how many words stand behind the first one, and how they are read.
type row struct {
	least int
	most  int
	read  func(r *reader, words []word)
}

func rows() map[string]row {
	return map[string]row{
		"frames": {1, 1, (*reader).readFrames},
		"budget": {1, 1, (*reader).readBudget},
		"init":   {1, 1, (*reader).readInit},
		"dir":    {1, 1, (*reader).readDir},
		"dev":    {3, 3, (*reader).readDev},
		"text":   {2, 2, (*reader).readText},
		"bytes":  {1, 1, (*reader).readBytes},
		"asm":    {1, 1, (*reader).readAsm},
		"tick":   {1, anyNumber, (*reader).readTicks},
		"every":  {3, 3, (*reader).readEvery},
		"input":  {2, 2, (*reader).readInput},
	}
}

// reader is a text that is being read.
type reader struct {
	rows   map[string]row
	lines  []string
	at     int // the number of the line that is looked at, from 1 on; 0 ahead of all
	script api.Script

	// Whether a setting stands there is not told by its value, which may be zero.
	hasFrames bool
	hasBudget bool
	hasInit   bool
}

// giveUp leaves the text from wherever it is; Parse catches the fault.
func (r *reader) giveUp(reason error) { r.giveUpAt(r.at, reason) }

func (r *reader) giveUpAt(line int, reason error) { panic(refusal(line, reason)) }

func (r *reader) begin(text string) {
	if len(text) > api.MaxEngine {
		r.giveUp(api.ErrEngineLong)
	}
	// Nothing behind the last line feed is no line; as one without words it does no harm.
	r.lines = strings.Split(text, "\n")
}

func (r *reader) readAll() {
	for r.at < len(r.lines) {
		r.at++
		r.readLine(r.lines[r.at-1])
	}
	if !r.hasFrames || !r.hasBudget || !r.hasInit {
		r.giveUpAt(0, api.ErrEngineEnd)
	}
}

func (r *reader) readLine(line string) {
	words, ok := cut(line)
	if !ok {
		r.giveUp(api.ErrEngineWord)
	}
	if len(words) == 0 {
		return
	}
	first, words := words[0], words[1:]
	row, known := r.rows[first.text]
	if !first.plain || !known || len(words) < row.least || len(words) > row.most {
		r.giveUp(api.ErrEngineLine)
	}
	row.read(r, words)
}

// number reads a word as a number.
func (r *reader) number(w word) int { return r.numberWithin(w, 0, api.MaxNumber) }

func (r *reader) numberWithin(w word, least, most int) int {
	n, ok := number(w, least, most)
	if !ok {
		r.giveUp(api.ErrEngineWord)
	}
	return n
}

// once notes that a setting stands there.
func (r *reader) once(stands *bool) {
	if *stands {
		r.giveUp(api.ErrEngineTwice)
	}
	*stands = true
}

// needs asks for room for more things of a kind, of which so many are there and there may be most.
func (r *reader) needs(more, there, most int) {
	if more > most-there {
		r.giveUp(api.ErrEngineMany)
	}
}
