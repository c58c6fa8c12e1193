package engine

import (
	"slices"
	"strconv"
	"strings"

	"hartix/api"
)

const (
	bytesOfLine = 32
	ticksOfLine = 16
)

// wrongPlace tells the place of the first thing of a script that no text tells.
func wrongPlace(s api.Script) (at int, wrong bool) {
	if !isNumber(s.Frames) || !isNumber(s.Budget) {
		return 0, true
	}
	at = 1
	for k, f := range s.Files {
		if k >= api.MaxBoot || !isFile(f) {
			return at + k, true
		}
	}
	at += len(s.Files)
	for k, tick := range s.Ticks {
		if k >= api.MaxEvents || !isNumber(tick) {
			return at + k, true
		}
	}
	at += len(s.Ticks)
	for k, input := range s.Inputs {
		if k >= api.MaxEvents || !isNumber(input.At) {
			return at + k, true
		}
	}
	return 0, false
}

func isNumber(n int) bool { return 0 <= n && n <= api.MaxNumber }

// isFile tells whether a file is of a type, and has nothing but what its type has.
func isFile(f api.BootFile) bool {
	noData := len(f.Data) == 0
	noDevice := f.Major == 0 && f.Minor == 0
	switch f.Type {
	case api.TypeDir:
		return noData && noDevice
	case api.TypeFile:
		return noDevice
	case api.TypeDev:
		return noData
	}
	return false
}

// isFarTooLong tells whether the text would be too long even if one byte told one byte. What is not is written, and then measured.
func isFarTooLong(s api.Script) bool {
	length := len(s.Init)
	for _, f := range s.Files {
		length += len(f.Path) + len(f.Data)
	}
	for _, input := range s.Inputs {
		length += len(input.Data)
	}
	return length > api.MaxEngine
}

// writer is a text that is being written.
type writer struct {
	text strings.Builder
}

// line writes a line of words.
func (w *writer) line(words ...string) {
	w.text.WriteString(strings.Join(words, " "))
	w.text.WriteByte('\n')
}

func written(s api.Script) string {
	var w writer
	w.line("frames", strconv.Itoa(s.Frames))
	w.line("budget", strconv.Itoa(s.Budget))
	w.line("init", quote(s.Init))
	for _, f := range s.Files {
		w.file(f)
	}
	w.ticks(s.Ticks)
	for _, input := range s.Inputs {
		w.line("input", strconv.Itoa(input.At), quote(string(input.Data)))
	}
	return w.text.String()
}

func (w *writer) file(f api.BootFile) {
	switch f.Type {
	case api.TypeDir:
		w.line("dir", quote(f.Path))
	case api.TypeDev:
		w.line("dev", quote(f.Path), strconv.Itoa(int(f.Major)), strconv.Itoa(int(f.Minor)))
	case api.TypeFile:
		w.line("bytes", quote(f.Path))
		for some := range slices.Chunk(f.Data, bytesOfLine) {
			w.line(hexWord(some))
		}
		w.line(endWord)
	}
}

func (w *writer) ticks(ticks []int) {
	for some := range slices.Chunk(ticks, ticksOfLine) {
		words := []string{"tick"}
		for _, tick := range some {
			words = append(words, strconv.Itoa(tick))
		}
		w.line(words...)
	}
}
