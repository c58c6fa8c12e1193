package asm

import (
	"strings"

	"hartix/api"
)

const blanks = "\t\r "

// pieces is a line that was cut; one without a statement has no word.
type pieces struct {
	labels   []string
	word     string
	operands []string
}

func cut(line string) pieces {
	var p pieces
	body, commas := scan(line)
	from := behindBlanks(body, 0)
	to := behindWord(body, from)
	for to < len(body) && body[to] == ':' {
		p.labels = append(p.labels, asName(body[from:to]))
		from = behindBlanks(body, to+1)
		to = behindWord(body, from)
	}
	if from == len(body) {
		return p
	}
	p.word = body[from:to]
	if !beginsWord(p.word) || to < len(body) && !isBlank(body[to]) {
		giveUp(api.ErrAsmForm)
	}
	p.operands = cutOperands(body, to, commas)
	return p
}

// scan tells the line without its remark, and where in it the commas outside of quoted pieces stand.
func scan(line string) (body string, commas []int) {
	end := len(line)
bytes:
	for i := 0; i < len(line); i++ {
		switch line[i] {
		case '#':
			end = i
			break bytes
		case ',':
			commas = append(commas, i)
		case '"', '\'':
			i = closing(line, i)
		}
	}
	return line[:end], commas
}

// closing tells where the quoted piece that begins at i has its last byte.
func closing(line string, i int) int {
	quote := line[i]
	i++
	if quote == '\'' {
		// One byte is inside of it, whatever it is: ''' is a piece, if no number.
		i = behindOne(line, i)
	}
	for quote == '"' && i < len(line) && line[i] != quote {
		i = behindOne(line, i)
	}
	if i >= len(line) || line[i] != quote {
		giveUp(api.ErrAsmForm)
	}
	return i
}

// behindOne goes on by a byte of a quoted piece; a \ takes the byte behind it along.
func behindOne(line string, i int) int {
	switch {
	case i < len(line) && line[i] == '\\':
		i++
		fallthrough
	default:
		i++
	}
	return i
}

// cutOperands takes what stands behind the word; all commas do, since a word and labels have none.
func cutOperands(body string, from int, commas []int) []string {
	if strings.Trim(body[from:], blanks) == "" {
		return nil
	}
	var operands []string
	for _, to := range append(commas, len(body)) {
		o := strings.Trim(body[from:to], blanks)
		if o == "" {
			giveUp(api.ErrAsmForm)
		}
		operands = append(operands, o)
		from = to + 1
	}
	return operands
}

func behindBlanks(s string, i int) int {
	for i < len(s) && isBlank(s[i]) {
		i++
	}
	return i
}

// behindWord goes on as far as what stands at i may be a word or a name, or, if a digit is ahead, a number.
func behindWord(s string, i int) int {
	for i < len(s) && isOfWords(s[i]) {
		i++
	}
	return i
}

func isBlank(b byte) bool { return strings.IndexByte(blanks, b) >= 0 }

func isDigit(b byte) bool { return '0' <= b && b <= '9' }

func isOfWords(b byte) bool {
	return 'A' <= b && b <= 'Z' || 'a' <= b && b <= 'z' || isDigit(b) || b == '_' || b == '.'
}

func beginsWord(s string) bool { return s != "" && isOfWords(s[0]) && !isDigit(s[0]) }

func isName(s string) bool {
	return beginsWord(s) && behindWord(s, 0) == len(s) && len(s) <= api.MaxSymbol
}

func asName(s string) string {
	if !isName(s) {
		giveUp(api.ErrAsmForm)
	}
	return s
}
