package engine_test

// W7: want has its cause. Each call is made with every number of frames, from too few to enough, and is refused just where its demand is above what there is.

import (
	"fmt"
	"strconv"
	"strings"
	"testing"

	"hartix/api"
	"hartix/engine"
)

// asked is a call, whose answer a0 is what the program exits with.
type asked struct {
	name   string
	ahead  string // lines ahead of the call
	call   string
	demand func(l api.OsLook) int // of the state ahead of the call
}

func pagesOf(l api.OsLook) int { return len(l.Procs[0].Pages) }

// growth is what n pages more ask for.
func growth(n int) func(api.OsLook) int {
	return func(l api.OsLook) int { return n + nodesOf(pagesOf(l)+n) - nodesOf(pagesOf(l)) }
}

func fixed(n int) func(api.OsLook) int { return func(api.OsLook) int { return n } }

func wanting() []asked {
	return []asked{
		{"fork", "", "li a7, 1\necall", func(l api.OsLook) int { return worthOf(pagesOf(l)) }},
		{"fork of many pages", "li a0, 80000\nli a7, 12\necall", "li a7, 1\necall", func(l api.OsLook) int { return worthOf(pagesOf(l)) }},
		{"sbrk of a page", "", "li a0, 4096\nli a7, 12\necall", growth(1)},
		{"sbrk of a byte", "", "li a0, 1\nli a7, 12\necall", growth(1)},
		{"sbrk of no page", "li a0, -1\nli a7, 12\necall", "li a0, 1\nli a7, 12\necall", growth(0)},
		{"sbrk of ten pages", "", "li a0, 40960\nli a7, 12\necall", growth(10)},
		{"sbrk of 512 pages", "", "li a0, 2097152\nli a7, 12\necall", growth(512)},
		{"exec", "", "la a0, other\nla a1, args\nli a7, 7\necall", fixed(4 + 5)},
		{"mkdir", "", "la a0, name\nli a7, 20\necall", fixed(1)},
		{"open", "", "la a0, name\nli a1, 0x201\nli a7, 15\necall", fixed(0)},
		{"write of a byte", "la a0, name\nli a1, 0x201\nli a7, 15\necall\nmv s2, a0", "mv a0, s2\nli a1, 0\nli a2, 1\nli a7, 16\necall", fixed(1)},
	}
}

func TestWant(t *testing.T) {
	for _, c := range wanting() {
		t.Run(c.name, func(t *testing.T) {
			t.Parallel()
			outcomes := map[bool]int{}
			frames := 16
			if c.name == "sbrk of 512 pages" {
				frames = 520
			}
			for ; outcomes[true] < 6 && frames < 700; frames++ {
				text := fmt.Sprintf("frames %d\nbudget 2000\ninit /a\ntext /pad "+strings.Repeat("x", 5*pageSize)+"\nasm /a\n%s\nmark: nop\n%s\nmv s4, a0\nli a7, 2\necall\n.data\nname: .asciz \"x\"\nother: .asciz \"/b\"\n.align 3\nargs: .dword other, 0\nend\nasm /b\nli a0, 7\nli a7, 2\necall\n.data\n.byte 1\nend\n", frames, c.ahead, c.call)
				if done, is := wants(t, text, c); is {
					outcomes[done]++
				}
			}
			// With the least memory that can be booted the call is refused, if it asks for a frame at all.
			if outcomes[true] < 6 || c.demand(api.OsLook{Procs: make([]api.ProcLook, 1)}) > 0 && outcomes[false] == 0 {
				t.Errorf("%v", outcomes)
			}
		})
	}
}

// wants plays a script up to its mark, reckons whether the call behind it must be refused, and asks for that; false: it can't be booted, or does not come there.
func wants(t *testing.T, text string, c asked) (done, is bool) {
	t.Helper()
	m := boot(t, text)
	if m == nil {
		return false, false
	}
	mark := addressOf(t, strings.SplitN(strings.SplitN(text, "asm /a\n", 2)[1], "\nend\n", 2)[0], "mark")
	for m.Os().Look().Procs[0].Regs.Pc != mark {
		if _, over := m.Step(); over {
			return false, false
		}
	}
	l := m.Os().Look()
	if c.ahead != "" && l.Procs[0].Regs.X[10] == 1<<64-1 {
		return false, false // the lines ahead met a want already
	}
	enough := l.Free >= c.demand(l)
	report := engine.Tell(text)
	refused := strings.Contains(report, "halt exit -1 at ")
	if refused == enough {
		t.Fatalf("%d frames are free, the demand is %d: %q", l.Free, c.demand(l), report)
	}
	return enough, true
}

// counts asks for the status with which a program's first process exits.
func counts(t *testing.T, what, text string, want int) {
	t.Helper()
	report := checkTell(t, text)
	if !strings.Contains(report, "halt exit "+strconv.Itoa(want)+" at ") {
		t.Errorf("%s: %q, want %d", what, report, want)
	}
}

// counting is a program that makes a call until it is refused, and exits with how often it was not.
func counting(frames int, call, data string) string {
	return fmt.Sprintf("frames %d\nbudget 200000\ninit /a\nasm /a\nagain: %s\nbltz a0, done\naddi s0, s0, 1\nj again\ndone: mv a0, s0\nli a7, 2\necall\n.data\n%s\nend\n", frames, call, data)
}

func TestTablesAreUsedUp(t *testing.T) {
	counts(t, "descriptors by dup", counting(64, "li a0, 0\nli a7, 10\necall", ""), 13)
	counts(t, "descriptors by open", counting(64, "la a0, path\nli a1, 0\nli a7, 15\necall", "path: .asciz \"/a\""), 13)
	counts(t, "descriptors by pipe", counting(64, "la a0, room\nli a7, 4\necall", "room: .zero 8"), 6)
	counts(t, "processes", counting(1000, "li a7, 1\necall\nbeqz a0, spin", "\n.text\nspin: j spin"), 63)
	// The root, the console and the program are there already; each name is another one.
	names := "la a0, path\nlw t0, 0(a0)\naddi t0, t0, 1\nandi t1, t0, 255\nbnez t1, keep\naddi t0, t0, 1\nkeep: sw t0, 0(a0)\nli a7, 17\necall"
	counts(t, "inodes", counting(64, names, ".align 2\npath: .byte 1, 1, 1, 0"), 196)
	// A file ends at 262144 bytes; what is left of the last write is written.
	write := "la a0, path\nli a1, 0x201\nli a7, 15\necall\nmv s2, a0\nagain: mv a0, s2\nli a1, 0\nli a2, 5000\nli a7, 16\necall\nbltz a0, done\nadd s0, s0, a0\nj again\ndone: mv a0, s0\nli a7, 2\necall\n.zero 4096\n.data\npath: .asciz \"f\""
	counts(t, "bytes of a file", "frames 200\nbudget 2000\ninit /a\nasm /a\n"+write+"\nend\n", 262144)
}

// Open files and pipes are used up by several processes: each fills its descriptors, and its child, with all but the first three closed, goes on. The last one tells by its status, which goes up through all of them, how often it went well in all.
func TestSharedTablesAreUsedUp(t *testing.T) {
	chain := func(call, data string) string {
		return "frames 400\nbudget 20000\ninit /a\nasm /a\nfill: " + call + `
bltz a0, full
addi s0, s0, 1
li s1, 1
j fill
full: beqz s1, done
li s1, 0
li a7, 1
ecall
beqz a0, child
la a0, status
li a7, 3
ecall
la a0, status
lw s0, 0(a0)
done: mv a0, s0
li a7, 2
ecall
child: li s2, 3
shut: mv a0, s2
li a7, 21
ecall
addi s2, s2, 1
li t0, 16
bne s2, t0, shut
j fill
.data
.align 2
status: .word 0
` + data + "\nend\n"
	}
	counts(t, "open files", chain("la a0, path\nli a1, 0\nli a7, 15\necall", "path: .asciz \"/a\""), 99)
	counts(t, "pipes", chain("la a0, room\nli a7, 4\necall", "room: .zero 8"), 32)
}
