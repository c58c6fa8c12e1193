package engine_test

// W2: it never breaks. All runs here go beside the abstract machine, so that a wrong answer is told as well as a panic.

import (
	"fmt"
	"regexp"
	"strconv"
	"strings"
	"testing"

	"hartix/engine"
)

// asHex gives a file as a block of a text.
func asHex(path string, data []byte) string {
	return fmt.Sprintf("bytes %s\n%x\nend\n", path, data)
}

// odd gives numbers at the edges of something.
func odd(s *scatter) string {
	switch s.below(5) {
	case 0:
		return strconv.Itoa(s.below(20))
	case 1:
		return "0x" + strconv.FormatUint(s.next(), 16)
	case 2:
		return strconv.Itoa(pageSize*s.below(8) - s.below(9))
	}
	return pick(s, "-1", "0", "1", "0x7fffffff", "0x80000000", "0xffffffff", "0x100000000", "0x7fffffffffffffff", "0x8000000000000000", "0x4000000000", "0x3fffffe000", "0x3ffffff000", "0x3fffffd000", "0x80001000", "0xfffffffffffffff8", "512", "513", "262144", "262145")
}

// oddProgram makes calls with odd numbers in all registers that they look at.
func oddProgram(s *scatter) string {
	var b strings.Builder
	b.WriteString("begin:\n")
	for range 12 {
		for _, register := range []string{"a0", "a1", "a2"} {
			switch s.below(4) {
			case 0:
				fmt.Fprintf(&b, "li %s, %s\n", register, odd(s))
			case 1:
				fmt.Fprintf(&b, "la %s, path\n", register)
			case 2:
				fmt.Fprintf(&b, "la %s, room\n", register)
			case 3:
				fmt.Fprintf(&b, "li %s, %d\n", register, s.below(5))
			}
		}
		number := 1 + s.below(21)
		if number == 2 || s.below(10) == 0 {
			number = s.below(40)
		}
		fmt.Fprintf(&b, "li a7, %d\necall\n", number)
	}
	b.WriteString("j begin\n.data\npath: .asciz \"/a\"\n.align 3\n.dword path, 0\n.bss\nroom: .zero 6000\n")
	return b.String()
}

func TestOddCalls(t *testing.T) {
	inParts(t, 8, func(t *testing.T, part int, v variety) {
		s := scatter(3000 + part)
		for range 20 {
			text := fmt.Sprintf("frames %d\nbudget 400\ninit /a\nasm /a\n%send\nevery 7 20 20\ninput 100 \"a line\\n\"\n", pick(&s, 40, 80, 300), oddProgram(&s))
			if w := begin(t, text); w != nil {
				w.play(v)
			}
		}
	})
}

// Programs of drawn words, and files that are hardly programs.
func TestJunkPrograms(t *testing.T) {
	v := inParts(t, 8, func(t *testing.T, part int, v variety) {
		s := scatter(4000 + part)
		for round := range 60 {
			data := program(t, strings.Repeat("nop\n", 60)+"j 0\n.data\n.zero 60")
			from := 64 + 2*56 // behind the headers
			if round%3 == 0 {
				from = 0
			}
			for range 1 + s.below(8)*s.below(20) {
				data[from+s.below(len(data)-from)] = byte(s.next())
			}
			if round%7 == 0 {
				data = data[:s.below(len(data))]
			}
			text := "frames 40\nbudget 200\ninit /a\n" + asHex("/a", data) + "tick 50 60\n"
			if w := begin(t, text); w != nil {
				w.play(v)
				v["ran"]++
			} else {
				v["refused"]++
			}
		}
	})
	v.atLeast(t, map[string]int{"ran": 100, "refused": 50, "halt 1": 20, "halt 2": 50})
}

// A program's fault ends that process alone: its parent is told -1, and goes on.
func TestFaultsEndOneProcess(t *testing.T) {
	for _, fault := range []string{
		"ebreak", ".word 0", ".word 0xffffffff", "sret", "mret", "wfi", "sfence.vma zero, zero", "csrrw zero, 0, zero", "csrrs a0, 0xc00, zero",
		"ld a0, 1(zero)", "sd a0, 0(zero)", "lw a0, -4(zero)", "sw a0, -4(zero)", "li t0, 6\njr t0", "lui t0, 900\njr t0", "jr sp", "li t0, 0x3fffffe000\nld a0, 0(t0)", "li t0, 0x3ffffff000\njr t0", "li t0, 0x80000000\nsd a0, 0(t0)", "addi t0, sp, -2048\nsd a0, -2047(t0)", "li t0, -1\njr t0", "la t0, guard\nld a0, 0(t0)", "j 0x100000",
	} {
		text := runs(200, "li a7, 1\necall\nbnez a0, parent\n"+fault+"\nli a0, 5\nli a7, 2\necall\nparent: la a0, room\nli a7, 3\necall\nmv s0, a0\nla a1, room\nlw s1, 0(a1)\naddi s1, s1, 1\nadd a0, s0, s1\nli a7, 2\necall\n.bss\nroom: .zero 4096\nguard: .zero 0", "")
		w := begin(t, text)
		w.toEnd()
		if report := engine.Tell(text); !strings.Contains(report, "halt exit 2 at ") {
			t.Errorf("%q: %q", fault, report)
		}
	}
}

var aReport = regexp.MustCompile(`^(out "[ -~]*"\n)*(pid [1-9][0-9]* steps [1-9][0-9]*\n)*halt (budget|exit -?[0-9]+|idle) at ([0-9]+)\n$`)

// Every script ends within its budget, and its report has its form.
func TestReportsHaveTheirForm(t *testing.T) {
	s := scatter(182)
	for range 100 {
		text := drawnRun(&s)
		budget := s.below(700)
		found := aReport.FindStringSubmatch(engine.Tell(withBudget(text, budget)))
		if found == nil {
			t.Fatalf("%q", engine.Tell(withBudget(text, budget)))
		}
		if at, _ := strconv.Atoi(found[4]); at > budget {
			t.Fatalf("ended at %d, behind the budget of %d", at, budget)
		}
	}
}

// The longest run.
func TestGreatestBudget(t *testing.T) {
	tells(t, runs(1048576, "l: addi s0, s0, 1\nj l", "every 0 256 4096"), "pid 1 steps 1048576\nhalt budget at 1048576\n")
}
