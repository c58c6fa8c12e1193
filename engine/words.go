package engine

import (
	"strconv"
	"strings"
)

const (
	blanks   = "\t\r "
	outsides = blanks + `"#` // the bytes that a plain word has not
	endWord  = "end"
)

// word is a word of a line: what it tells, and whether it is plain.
type word struct {
	text  string
	plain bool
}

// cut gives a line's words; false, if a quoted one is none.
func cut(line string) (words []word, ok bool) {
	for {
		line = strings.TrimLeft(line, blanks)
		if line == "" || line[0] == '#' {
			return words, true
		}
		var w word
		if w, line, ok = cutWord(line); !ok {
			return nil, false
		}
		words = append(words, w)
	}
}

// cutWord gives the word with which a line begins, and the rest of the line.
func cutWord(line string) (w word, rest string, ok bool) {
	if line[0] == '"' {
		return cutQuoted(line)
	}
	end := strings.IndexAny(line, outsides)
	if end < 0 {
		end = len(line)
	}
	return word{text: line[:end], plain: true}, line[end:], true
}

func cutQuoted(line string) (w word, rest string, ok bool) {
	var text []byte
	rest = line[1:]
	for rest != "" && rest[0] != '"' {
		b, n := firstByte(rest)
		if n == 0 {
			return word{}, "", false
		}
		text = append(text, b)
		rest = rest[n:]
	}
	if !isClosed(rest) {
		return word{}, "", false
	}
	return word{text: string(text)}, rest[1:], true
}

// isClosed tells whether a quoted word ends where rest begins, and has behind it what may stand there.
func isClosed(rest string) bool {
	return rest != "" && (len(rest) == 1 || rest[1] == '#' || strings.IndexByte(blanks, rest[1]) >= 0)
}

// number reads a word as a number from least to most; false, if it is none. Each number is written in one way alone.
func number(w word, least, most int) (int, bool) {
	n, err := strconv.Atoi(w.text)
	if err != nil || !w.plain || n < least || n > most || strconv.Itoa(n) != w.text {
		return 0, false
	}
	return n, true
}
