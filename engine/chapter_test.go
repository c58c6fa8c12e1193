package engine_test

// The chapter read a second time: words are found by regular expressions, numbers are whole numbers without end, texts are written by fmt.

import (
	"bytes"
	"errors"
	"fmt"
	"math/big"
	"reflect"
	"regexp"
	"slices"
	"strings"
	"testing"

	"hartix/api"
	"hartix/asm"
	"hartix/elf"
	"hartix/engine"
	"hartix/kernel"
)

const (
	longest  = 1048576
	greatest = 2147483647
)

var (
	blankAhead   = regexp.MustCompile(`^[\t\r ]+`)
	plainWord    = regexp.MustCompile(`^[^\t\r "#]+`)
	quotedWord   = regexp.MustCompile(`^"((?:[^"\\]|\\[ntr0"\\]|\\x[0-9a-fA-F][0-9a-fA-F])*)"`)
	behindQuoted = regexp.MustCompile(`^(?:[\t\r #]|$)`)
	escape       = regexp.MustCompile(`\\(?:x..|.)`)
	aNumber      = regexp.MustCompile(`^(?:0|[1-9][0-9]*)$`)
	aShort       = regexp.MustCompile(`^(?:0|-?[1-9][0-9]*)$`)
	someBytes    = regexp.MustCompile(`^(?:[0-9a-fA-F][0-9a-fA-F])+$`)
	asmEnd       = regexp.MustCompile(`^[\t\r ]*end[\t\r ]*$`)
)

// read is a word that was read.
type read struct {
	text   string
	quoted bool
}

func unescaped(text string) string {
	return escape.ReplaceAllStringFunc(text, func(e string) string {
		if e[1] == 'x' {
			var b byte
			if _, err := fmt.Sscanf(e[2:], "%02x", &b); err != nil {
				panic(err)
			}
			return string([]byte{b})
		}
		return map[byte]string{'n': "\n", 't': "\t", 'r': "\r", '0': "\x00", '"': "\"", '\\': "\\"}[e[1]]
	})
}

// wantWords cuts a line; false: it has a quoted word that is none.
func wantWords(line string) ([]read, bool) {
	var words []read
	for {
		line = line[len(blankAhead.FindString(line)):]
		if line == "" || strings.HasPrefix(line, "#") {
			return words, true
		}
		if plain := plainWord.FindString(line); plain != "" {
			words = append(words, read{text: plain})
			line = line[len(plain):]
			continue
		}
		quoted := quotedWord.FindStringSubmatch(line)
		if quoted == nil || !behindQuoted.MatchString(line[len(quoted[0]):]) {
			return nil, false
		}
		words = append(words, read{unescaped(quoted[1]), true})
		line = line[len(quoted[0]):]
	}
}

func wantNumber(w read) (*big.Int, bool) {
	n, ok := new(big.Int).SetString(w.text, 10)
	return n, ok && !w.quoted && aNumber.MatchString(w.text) && n.Cmp(big.NewInt(greatest)) <= 0
}

func wantShort(w read) (int16, bool) {
	n, ok := new(big.Int).SetString(w.text, 10)
	if !ok || w.quoted || !aShort.MatchString(w.text) || n.Cmp(big.NewInt(-32768)) < 0 || n.Cmp(big.NewInt(32767)) > 0 {
		return 0, false
	}
	return int16(n.Int64()), true
}

// wanted is a text that is read as the chapter says.
type wanted struct {
	lines  []string
	script api.Script
	stand  map[string]bool // frames, budget, init
	fault  error           // nil: nothing was refused
}

func linesOf(text string) []string {
	lines := strings.SplitAfter(text, "\n")
	if lines[len(lines)-1] == "" {
		lines = lines[:len(lines)-1]
	}
	for k := range lines {
		lines[k] = strings.TrimSuffix(lines[k], "\n")
	}
	return lines
}

func refusedAt(line int, reason error) error {
	return &api.Fault{Layer: "engine", At: line, Err: reason}
}

// wantParse is P18.1.
func wantParse(text string) (api.Script, error) {
	if len(text) > longest {
		return api.Script{}, refusedAt(0, api.ErrEngineLong)
	}
	w := &wanted{lines: linesOf(text), stand: map[string]bool{}}
	for at := 1; at <= len(w.lines) && w.fault == nil; {
		at = w.line(at)
	}
	if w.fault == nil && len(w.stand) < 3 {
		w.fault = refusedAt(0, api.ErrEngineEnd)
	}
	if w.fault != nil {
		return api.Script{}, w.fault
	}
	return w.script, nil
}

// line reads the line of that number, with its block, and tells the number of the next one.
func (w *wanted) line(at int) int {
	words, ok := wantWords(w.lines[at-1])
	if !ok {
		w.fault = refusedAt(at, api.ErrEngineWord)
		return at
	}
	if len(words) == 0 {
		return at + 1
	}
	// Each letter is a word: N a number, S a short, P and T words of any kind; + the last one as often as one likes.
	form, known := map[string]string{
		"frames": "N", "budget": "N", "init": "P", "dir": "P", "dev": "PSS", "text": "PT", "bytes": "P", "asm": "P", "tick": "N+", "every": "NNN", "input": "NT",
	}[words[0].text]
	most := len(form)
	if strings.HasSuffix(form, "+") {
		most = len(words)
		form = strings.Repeat("N", max(1, len(words)-1))
	}
	if words[0].quoted || !known || len(words)-1 < len(form) || len(words)-1 > most {
		w.fault = refusedAt(at, api.ErrEngineLine)
		return at
	}
	for k, kind := range form {
		right := true
		switch kind {
		case 'N':
			_, right = wantNumber(words[k+1])
		case 'S':
			_, right = wantShort(words[k+1])
		}
		if !right {
			w.fault = refusedAt(at, api.ErrEngineWord)
			return at
		}
	}
	return w.right(at, words[0].text, words[1:])
}

func intOf(w read) int {
	n, _ := wantNumber(w)
	return int(n.Int64())
}

// right goes on with a line whose words are right.
func (w *wanted) right(at int, first string, words []read) int {
	switch first {
	case "frames", "budget", "init":
		if w.stand[first] {
			w.fault = refusedAt(at, api.ErrEngineTwice)
		}
		w.stand[first] = true
		switch first {
		case "frames":
			w.script.Frames = intOf(words[0])
		case "budget":
			w.script.Budget = intOf(words[0])
		default:
			w.script.Init = words[0].text
		}
	case "tick", "every":
		w.ticks(at, first, words)
	case "input":
		if len(w.script.Inputs) == 4096 {
			w.fault = refusedAt(at, api.ErrEngineMany)
			return at
		}
		w.script.Inputs = append(w.script.Inputs, api.Input{At: intOf(words[0]), Data: bytesOrNil(words[1].text)})
	default:
		return w.file(at, first, words)
	}
	return at + 1
}

func bytesOrNil(text string) []byte {
	if text == "" {
		return nil
	}
	return []byte(text)
}

func (w *wanted) ticks(at int, first string, words []read) {
	var numbers []*big.Int
	for _, word := range words {
		n, _ := wantNumber(word)
		numbers = append(numbers, n)
	}
	if first == "tick" {
		if len(w.script.Ticks)+len(numbers) > 4096 {
			w.fault = refusedAt(at, api.ErrEngineMany)
			return
		}
		for _, n := range numbers {
			w.script.Ticks = append(w.script.Ticks, int(n.Int64()))
		}
		return
	}
	from, step, count := numbers[0], numbers[1], numbers[2]
	last := new(big.Int).Sub(count, big.NewInt(1))
	last.Mul(last, step).Add(last, from)
	if count.Sign() > 0 && last.Cmp(big.NewInt(greatest)) > 0 {
		w.fault = refusedAt(at, api.ErrEngineWord)
		return
	}
	if count.Cmp(big.NewInt(int64(4096-len(w.script.Ticks)))) > 0 {
		w.fault = refusedAt(at, api.ErrEngineMany)
		return
	}
	for tick := new(big.Int).Set(from); count.Sign() > 0; count.Sub(count, big.NewInt(1)) {
		w.script.Ticks = append(w.script.Ticks, int(tick.Int64()))
		tick.Add(tick, step)
	}
}

func (w *wanted) file(at int, first string, words []read) int {
	if len(w.script.Files) == 64 {
		w.fault = refusedAt(at, api.ErrEngineMany)
		return at
	}
	f := api.BootFile{Path: words[0].text}
	next := at + 1
	switch first {
	case "dir":
		f.Type = api.TypeDir
	case "dev":
		f.Type = api.TypeDev
		f.Major, _ = wantShort(words[1])
		f.Minor, _ = wantShort(words[2])
	case "text":
		f.Type, f.Data = api.TypeFile, bytesOrNil(words[1].text)
	case "bytes":
		f.Type = api.TypeFile
		f.Data, next = w.bytes(at)
	case "asm":
		f.Type = api.TypeFile
		f.Data, next = w.asm(at)
	}
	w.script.Files = append(w.script.Files, f)
	return next
}

// inside gives the lines of a block, and the number of the line behind its end.
func (w *wanted) inside(at int, isEnd func(string) bool) ([]string, int) {
	n := slices.IndexFunc(w.lines[at:], isEnd)
	if n < 0 {
		w.fault = refusedAt(at, api.ErrEngineEnd)
		return nil, at
	}
	return w.lines[at : at+n], at + n + 2
}

func (w *wanted) bytes(at int) ([]byte, int) {
	lines, next := w.inside(at, func(line string) bool {
		words, ok := wantWords(line)
		return ok && reflect.DeepEqual(words, []read{{text: "end"}})
	})
	var data []byte
	for k, line := range lines {
		words, ok := wantWords(line)
		for _, word := range words {
			ok = ok && !word.quoted && someBytes.MatchString(word.text)
		}
		if !ok {
			w.fault = refusedAt(at+1+k, api.ErrEngineWord)
			return nil, at
		}
		for _, word := range words {
			var more []byte
			if _, err := fmt.Sscanf(word.text, "%x", &more); err != nil {
				panic(err)
			}
			data = append(data, more...)
		}
	}
	return data, next
}

func (w *wanted) asm(at int) ([]byte, int) {
	lines, next := w.inside(at, asmEnd.MatchString)
	if w.fault != nil {
		return nil, at
	}
	text := strings.Join(append(slices.Clone(lines), ""), "\n")
	image, err := asm.Assemble(text)
	if err != nil {
		w.fault = refusedAt(at, err)
		return nil, at
	}
	data, err := elf.Write(asm.Program(image))
	if err != nil {
		w.fault = refusedAt(at, err)
		return nil, at
	}
	return data, next
}

func quoted(text []byte) string {
	var b strings.Builder
	for _, c := range text {
		switch {
		case c == 10:
			b.WriteString(`\n`)
		case c == 9:
			b.WriteString(`\t`)
		case c == 13:
			b.WriteString(`\r`)
		case c == '"' || c == '\\':
			fmt.Fprintf(&b, `\%c`, c)
		case c < 32 || c >= 127:
			fmt.Fprintf(&b, `\x%02x`, c)
		default:
			fmt.Fprintf(&b, "%c", c)
		}
	}
	return `"` + b.String() + `"`
}

// wrongIn tells the place of what no text tells; -1: there is none.
func wrongIn(s api.Script) int {
	no := func(n int) bool { return n < 0 || n > greatest }
	if no(s.Frames) || no(s.Budget) {
		return 0
	}
	var wrong []bool
	for k, f := range s.Files {
		isType := f.Type == 1 || f.Type == 2 || f.Type == 3
		data := len(f.Data) > 0 && f.Type != 2
		device := (f.Major != 0 || f.Minor != 0) && f.Type != 3
		wrong = append(wrong, !isType || data || device || k == 64)
	}
	for k, tick := range s.Ticks {
		wrong = append(wrong, no(tick) || k == 4096)
	}
	for k, input := range s.Inputs {
		wrong = append(wrong, no(input.At) || k == 4096)
	}
	if at := slices.Index(wrong, true); at >= 0 {
		return 1 + at
	}
	return -1
}

// wantPrint is P18.2.
func wantPrint(s api.Script) (string, error) {
	if at := wrongIn(s); at >= 0 {
		return "", refusedAt(at, api.ErrEngineScript)
	}
	var b bytes.Buffer
	fmt.Fprintf(&b, "frames %d\nbudget %d\ninit %s\n", s.Frames, s.Budget, quoted([]byte(s.Init)))
	for _, f := range s.Files {
		path := quoted([]byte(f.Path))
		switch f.Type {
		case 1:
			fmt.Fprintf(&b, "dir %s\n", path)
		case 3:
			fmt.Fprintf(&b, "dev %s %d %d\n", path, f.Major, f.Minor)
		default:
			fmt.Fprintf(&b, "bytes %s\n", path)
			for k, c := range f.Data {
				fmt.Fprintf(&b, "%02x", c)
				if k%32 == 31 || k == len(f.Data)-1 {
					fmt.Fprintln(&b)
				}
			}
			fmt.Fprintln(&b, "end")
		}
	}
	for k, tick := range s.Ticks {
		if k%16 == 0 {
			fmt.Fprint(&b, "tick")
		}
		fmt.Fprintf(&b, " %d", tick)
		if k%16 == 15 || k == len(s.Ticks)-1 {
			fmt.Fprintln(&b)
		}
	}
	for _, input := range s.Inputs {
		fmt.Fprintf(&b, "input %d %s\n", input.At, quoted(input.Data))
	}
	if b.Len() > longest {
		return "", refusedAt(0, api.ErrEngineLong)
	}
	return b.String(), nil
}

// wantRefused tells a refusal as P18.4 says.
func wantRefused(err error) string {
	text := "refused"
	for err != nil {
		switch e := err.(type) {
		case *api.Fault:
			text += fmt.Sprintf(" %s %d", e.Layer, e.At)
		case api.Errno:
			text += fmt.Sprintf(" errno %d", int(e))
		}
		err = errors.Unwrap(err)
	}
	return text + "\n"
}

// wantReport tells a report as P18.4 says.
func wantReport(r api.Report) string {
	var b strings.Builder
	var piece []byte
	for k, c := range r.Output {
		piece = append(piece, c)
		if c == 10 || len(piece) == 64 || k == len(r.Output)-1 {
			fmt.Fprintf(&b, "out %s\n", quoted(piece))
			piece = nil
		}
	}
	for _, p := range r.Steps {
		fmt.Fprintf(&b, "pid %d steps %d\n", p.Pid, p.Steps)
	}
	switch r.Halt.Code {
	case api.HaltBudget:
		fmt.Fprintf(&b, "halt budget at %d\n", r.Halt.Step)
	case api.HaltExit:
		fmt.Fprintf(&b, "halt exit %d at %d\n", r.Halt.Status, r.Halt.Step)
	case api.HaltIdle:
		fmt.Fprintf(&b, "halt idle at %d\n", r.Halt.Step)
	}
	return b.String()
}

// wantTell is P18.4.
func wantTell(text string) string {
	script, err := wantParse(text)
	if err != nil {
		return wantRefused(err)
	}
	report, err := kernel.Run(script)
	if err != nil {
		return wantRefused(err)
	}
	return wantReport(report)
}

func shown(text string) string {
	if len(text) > 600 {
		return fmt.Sprintf("%q .. (%d bytes)", text[:600], len(text))
	}
	return fmt.Sprintf("%q", text)
}

func shownScript(s api.Script) string {
	text := fmt.Sprintf("%+v", s)
	return text[:min(len(text), 600)]
}

// checkParse holds Parse against the chapter; it tells what Parse answered.
func checkParse(t *testing.T, text string) (api.Script, error) {
	t.Helper()
	want, wantErr := wantParse(text)
	got, err := engine.Parse(text)
	if !reflect.DeepEqual(err, wantErr) {
		t.Fatalf("Parse of %s: %v, want %v", shown(text), err, wantErr)
	}
	if !reflect.DeepEqual(got, want) {
		t.Fatalf("Parse of %s: %s, want %s", shown(text), shownScript(got), shownScript(want))
	}
	return got, err
}

// checkPrint holds Print against the chapter; it tells what Print answered.
func checkPrint(t *testing.T, s api.Script) (string, error) {
	t.Helper()
	want, wantErr := wantPrint(s)
	got, err := engine.Print(s)
	if !reflect.DeepEqual(err, wantErr) || got != want {
		t.Fatalf("Print of %s: %s, %v, want %s, %v", shownScript(s), shown(got), err, shown(want), wantErr)
	}
	return got, err
}

// checkTell holds Tell against the chapter; it tells what Tell answered.
func checkTell(t *testing.T, text string) string {
	t.Helper()
	want := wantTell(text)
	got := engine.Tell(text)
	if got != want {
		t.Fatalf("Tell of %s: %s, want %s", shown(text), shown(got), shown(want))
	}
	return got
}

// asks asks for a refusal of Parse, and holds it against the chapter.
func asks(t *testing.T, text string, line int, reason api.Errno) {
	t.Helper()
	_, err := checkParse(t, text)
	if !reflect.DeepEqual(err, refusedAt(line, reason)) {
		t.Fatalf("Parse of %s: %v, want errno %d at %d", shown(text), err, reason, line)
	}
}

// settings is what a text needs to be one.
const settings = "frames 64\nbudget 100\ninit /a\n"

// reads asks for a script, whose settings stand ahead of the text.
func reads(t *testing.T, text string, want api.Script) {
	t.Helper()
	want.Frames, want.Budget, want.Init = 64, 100, "/a"
	got, err := checkParse(t, settings+text)
	if err != nil || !reflect.DeepEqual(got, want) {
		t.Fatalf("Parse of %s: %s, %v, want %s", shown(text), shownScript(got), err, shownScript(want))
	}
}
