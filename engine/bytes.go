package engine

import "strings"

const (
	// A byte of the second row stands in a quoted word as a \ and the letter of the first row in its place.
	letters  = `ntr"\0`
	lettered = "\n\t\r\"\\\x00"
	// The byte 0 is read by its letter too, but written by its digits alone.
	writtenLetters = len(letters) - 1

	digits    = "0123456789abcdef"
	digitPair = 2

	// The bytes from the first to the last are written as they are.
	firstShown = 32
	lastShown  = 126
)

// firstByte tells the byte that stands first in a quoted text, and how many bytes tell it; 0: none does.
func firstByte(text string) (b byte, n int) {
	switch {
	case text[0] != '\\':
		return text[0], 1
	case len(text) < 2:
		return 0, 0
	case text[1] == 'x':
		return digitsByte(text)
	}
	k := strings.IndexByte(letters, text[1])
	if k < 0 {
		return 0, 0
	}
	return lettered[k], 2
}

// digitsByte is firstByte of a text that begins with \x.
func digitsByte(text string) (b byte, n int) {
	if len(text) < 4 {
		return 0, 0
	}
	b, ok := hexByte(text[2:4])
	if !ok {
		return 0, 0
	}
	return b, 4
}

// hexBytes reads a plain word of two digits for each byte; false, if it is none.
func hexBytes(w word) (data []byte, ok bool) {
	if !w.plain || len(w.text)%digitPair != 0 {
		return nil, false
	}
	for at := 0; at < len(w.text); at += digitPair {
		b, ok := hexByte(w.text[at : at+digitPair])
		if !ok {
			return nil, false
		}
		data = append(data, b)
	}
	return data, true
}

func hexByte(pair string) (b byte, ok bool) {
	high, low := digit(pair[0]), digit(pair[1])
	if high < 0 || low < 0 {
		return 0, false
	}
	return byte(high<<4 | low), true
}

// digit tells what a hexadecimal digit, small or great, stands for; below 0: it is none.
func digit(b byte) int {
	if 'A' <= b && b <= 'F' {
		b += 'a' - 'A'
	}
	return strings.IndexByte(digits, b)
}

// hexWord writes bytes as one word of small digits.
func hexWord(data []byte) string {
	var text []byte
	for _, b := range data {
		text = appendDigits(text, b)
	}
	return string(text)
}

func appendDigits(text []byte, b byte) []byte { return append(text, digits[b>>4], digits[b&15]) }

// quote writes bytes as a quoted word.
func quote(data string) string {
	text := []byte{'"'}
	for at := range len(data) {
		text = appendQuoted(text, data[at])
	}
	return string(append(text, '"'))
}

func appendQuoted(text []byte, b byte) []byte {
	switch k := strings.IndexByte(lettered[:writtenLetters], b); {
	case k >= 0:
		return append(text, '\\', letters[k])
	case b < firstShown || b > lastShown:
		return appendDigits(append(text, '\\', 'x'), b)
	}
	return append(text, b)
}
