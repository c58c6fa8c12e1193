package engine_test

// P18.4: runs as texts.

import (
	"fmt"
	"strings"
	"testing"

	"hartix/api"
	"hartix/engine"
)

// writes is a text whose program prints bytes and exits with 0.
func writes(printed []byte) string {
	var data strings.Builder
	for _, b := range printed {
		fmt.Fprintf(&data, ".byte %d\n", b)
	}
	return fmt.Sprintf("frames 64\nbudget 100\ninit /a\nasm /a\nli a0, 1\nla a1, s\nli a2, %d\nli a7, 16\necall\nli a0, 0\nli a7, 2\necall\n.data\n.byte 0\ns: %send\n", len(printed), "\n"+data.String())
}

// outs gives the lines out of a report.
func outs(report string) []string {
	var all []string
	for _, line := range strings.Split(report, "\n") {
		if strings.HasPrefix(line, "out ") {
			all = append(all, line)
		}
	}
	return all
}

func TestOut(t *testing.T) {
	long := func(n int) string { return strings.Repeat("x", n) }
	for _, c := range []struct {
		printed string
		want    []string
	}{
		{"", nil},
		{"a", []string{`out "a"`}},
		{"\n", []string{`out "\n"`}},
		{"a\n", []string{`out "a\n"`}},
		{"a\nb", []string{`out "a\n"`, `out "b"`}},
		{"\n\n\n", []string{`out "\n"`, `out "\n"`, `out "\n"`}},
		{long(63), []string{`out "` + long(63) + `"`}},
		{long(64), []string{`out "` + long(64) + `"`}},
		{long(65), []string{`out "` + long(64) + `"`, `out "x"`}},
		{long(128), []string{`out "` + long(64) + `"`, `out "` + long(64) + `"`}},
		{long(129), []string{`out "` + long(64) + `"`, `out "` + long(64) + `"`, `out "x"`}},
		{long(62) + "\n" + long(1), []string{`out "` + long(62) + `\n"`, `out "x"`}},
		{long(63) + "\n" + long(64), []string{`out "` + long(63) + `\n"`, `out "` + long(64) + `"`}},
		{long(64) + "\n" + long(64), []string{`out "` + long(64) + `"`, `out "\n"`, `out "` + long(64) + `"`}},
		{long(65) + "\n", []string{`out "` + long(64) + `"`, `out "x\n"`}},
		{"a\n" + long(64), []string{`out "a\n"`, `out "` + long(64) + `"`}},
		{"\"\\\r\t\x00\x7f\x80\xff~ ", []string{`out "\"\\\r\t\x00\x7f\x80\xff~ "`}},
		{strings.Repeat("\xff", 65), []string{`out "` + strings.Repeat(`\xff`, 64) + `"`, `out "\xff"`}},
	} {
		report := checkTell(t, writes([]byte(c.printed)))
		want := strings.Join(append(c.want, "halt exit 0 at ", ""), "\n")
		if got := outs(report); fmt.Sprint(got) != fmt.Sprint(c.want) || !strings.Contains(report, "\npid 1 steps ") && c.want != nil {
			t.Errorf("%q: %q, want %q", c.printed, report, want)
		}
	}
}

func TestOutDrawn(t *testing.T) {
	s := scatter(184)
	for range 300 {
		var printed []byte
		for range s.below(300) {
			printed = append(printed, pick(&s, 'a', 'b', byte(s.next()), '\n'*byte(s.below(2))))
		}
		joined := ""
		for _, line := range outs(checkTell(t, writes(printed))) {
			word, ok := wantWords(strings.TrimPrefix(line, "out "))
			if !ok || len(word) != 1 || len(word[0].text) > 64 || word[0].text == "" {
				t.Fatalf("%q", line)
			}
			joined += word[0].text
		}
		if joined != string(printed) {
			t.Fatalf("%q is told as %q", printed, joined)
		}
	}
}

// runs is a text with one program.
func runs(budget int, program, more string) string {
	return fmt.Sprintf("frames 64\nbudget %d\ninit /a\nasm /a\n%s\nend\n%s", budget, program, more)
}

func TestHalts(t *testing.T) {
	spin := "l: j l"
	tells(t, runs(0, spin, ""), "halt budget at 0\n")
	tells(t, runs(1, spin, ""), "pid 1 steps 1\nhalt budget at 1\n")
	tells(t, runs(1048576, "li a0, -1\nli a7, 2\necall", ""), "pid 1 steps 3\nhalt exit -1 at 2\n")
	for _, status := range []int{0, 1, -1, 2147483647, -2147483648, 65536, -32769} {
		want := fmt.Sprintf("halt exit %d at ", status)
		if got := checkTell(t, runs(99, fmt.Sprintf("li a0, %d\nli a7, 2\necall", status), "")); !strings.Contains(got, want) {
			t.Errorf("%d: %q", status, got)
		}
	}
	// A fault of the first process.
	tells(t, runs(99, "nop\nebreak", ""), "pid 1 steps 2\nhalt exit -1 at 1\n")
	// Nobody can run any more.
	tells(t, runs(99, "li a0, 1\nli a7, 13\necall", ""), "pid 1 steps 3\nhalt idle at 3\n")
	tells(t, runs(99, "li a0, 2\nli a7, 13\necall", "tick 50\n"), "pid 1 steps 3\nhalt idle at 50\n")
	tells(t, runs(99, "li a0, 1\nli a7, 13\necall\nli a7, 2\necall", "tick 50\n"), "pid 1 steps 5\nhalt exit 0 at 51\n")
}

func TestPids(t *testing.T) {
	// The parent forks twice, and waits twice; the children do nothing but exit.
	parent := "li a7, 1\necall\nbeqz a0, child\nli a7, 1\necall\nbeqz a0, child\nli a0, 0\nli a7, 3\necall\nli a0, 0\nli a7, 3\necall\nchild: li a7, 2\necall"
	tells(t, runs(99, parent, ""), "pid 1 steps 14\npid 2 steps 3\npid 3 steps 3\nhalt exit 3 at 19\n")
	// A child that never had its turn did no step.
	tells(t, runs(4, "li a7, 1\necall\nl: j l", ""), "pid 1 steps 4\nhalt budget at 4\n")
	tells(t, runs(4, "li a7, 1\necall\nl: j l", "tick 3\n"), "pid 1 steps 3\npid 2 steps 1\nhalt budget at 4\n")
}

func TestEcho(t *testing.T) {
	tells(t, runs(5, "l: j l", "input 2 \"ab\\x08c\\r\"\ninput 4 \"d\"\ninput 5 never\n"), "out \"ab\\x08 \\x08c\\n\"\nout \"d\"\npid 1 steps 5\nhalt budget at 5\n")
}

func TestRefusedByParse(t *testing.T) {
	tells(t, "none", "refused engine 1 errno 362\n")
	tells(t, settings+"asm /f\nnop\nfoo\nend", "refused engine 4 asm 2 errno 121\n")
	tells(t, settings+"asm /f\nend", "refused engine 4 elf 0 errno 143\n")
	tells(t, strings.Repeat("#", api.MaxEngine+1), "refused engine 0 errno 360\n")
}

func TestRefusedByTheKernel(t *testing.T) {
	for _, c := range [][2]string{
		{"frames 15\nbudget 1\ninit /a", "refused kernel 0 errno 320\n"},
		{"frames 4097\nbudget 1\ninit /a", "refused kernel 0 errno 320\n"},
		{"frames 64\nbudget 1048577\ninit /a", "refused kernel 0 errno 321\n"},
		{settings + "tick 5 5", "refused kernel 1 errno 322\n"},
		{settings + "tick 1 5 4", "refused kernel 2 errno 322\n"},
		{settings + "input 5 a\ninput 4 b", "refused kernel 1 errno 323\n"},
		{settings, fmt.Sprintf("refused kernel 0 call 0 errno %d\n", api.ErrTreeNone)},
		{settings + "dir /a", fmt.Sprintf("refused kernel 0 call 1 errno %d\n", api.ErrCallInit)},
		{settings + "text /a x", fmt.Sprintf("refused kernel 0 call 1 errno %d\n", api.ErrExecFile)},
		{settings + "dir /d\ndir /d", fmt.Sprintf("refused kernel 0 call 1 errno %d\n", api.ErrTreeTaken)},
		{settings + "text /x/y z", fmt.Sprintf("refused kernel 0 call 0 errno %d\n", api.ErrTreeNone)},
		{settings + "dir \"a\\0b\"", fmt.Sprintf("refused kernel 0 call 0 errno %d\n", api.ErrTreePath)},
	} {
		tells(t, c[0], c[1])
	}
}

// All that may stand in a script comes to the machine: files that a program reads, devices, directories.
func TestFilesAreThere(t *testing.T) {
	cat := `
la a0, path
li a1, 0
li a7, 15
ecall
mv s0, a0
mv a0, s0
la a1, room
li a2, 100
li a7, 5
ecall
mv a2, a0
li a0, 1
la a1, room
li a7, 16
ecall
li a7, 2
ecall
.data
path: .asciz "/d/f"
.bss
room: .zero 100`
	tells(t, runs(99, cat, "dir /d\ntext /d/f \"a\\x00b\"\n"), "out \"a\\x00b\"\npid 1 steps 20\nhalt exit 3 at 19\n")
	tells(t, runs(99, cat, "dir /d\nbytes /d/f\n61 0a 62 # c\nend\n"), "out \"a\\n\"\nout \"b\"\npid 1 steps 20\nhalt exit 3 at 19\n")
	tells(t, runs(99, cat, "dir /d\ndev /d/f 1 0\ninput 50 \"line\\n\"\n"), "out \"line\\n\"\nout \"line\\n\"\npid 1 steps 20\nhalt exit 5 at 57\n")
}

func TestTellOfNothing(t *testing.T) {
	if engine.Tell("") != "refused engine 0 errno 365\n" {
		t.Error(engine.Tell(""))
	}
}
