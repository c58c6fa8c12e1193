package engine_test

// Drawn scripts, as texts: programs that make drawn calls, with drawn ticks and inputs.

import (
	"fmt"
	"strconv"
	"strings"

	"hartix/api"
)

// drawing writes a drawn program.
type drawing struct {
	s        *scatter
	lines    strings.Builder
	labels   int
	timeless bool // nobody asks for the time
	quiet    bool // no call but getpid, sbrk, exit
}

func (d *drawing) put(lines ...string) {
	for _, l := range lines {
		d.lines.WriteString(l + "\n")
	}
}

func (d *drawing) label() string {
	d.labels++
	return "l" + strconv.Itoa(d.labels)
}

func (d *drawing) number(n int) string { return strconv.Itoa(d.s.below(n)) }

// call makes a call whose arguments are set by lines.
func (d *drawing) call(number int, lines ...string) {
	d.put(lines...)
	d.put("li a7, "+strconv.Itoa(number), "ecall")
}

// fd gives a line that brings a descriptor into a0: a fixed one, the last that was opened, or an end of the last pipe.
func (d *drawing) fd() string {
	switch d.s.below(6) {
	case 0, 1:
		return "li a0, " + d.number(6)
	case 2:
		return "mv a0, s2"
	case 3:
		return "li a0, " + pick(d.s, "-1", "15", "16", "1000", "0x100000001")
	}
	return "la a0, ends\nlw a0, " + pick(d.s, "0", "4") + "(a0)"
}

// many gives how many bytes are read or written: more than a pipe takes, too.
func (d *drawing) many() string {
	return "li a2, " + pick(d.s, "0", "1", "3", "9", "16", "100", "300", "600", "1500", "5000", "-1", "0x7fffffff", "0x100000004")
}

func (d *drawing) place() string {
	return pick(d.s, "la a1, bytes", "la a1, bytes", "la a1, bytes", "la a1, bytes", "la a1, path0", "li a1, 0", "li a1, -8", "mv a1, sp", "addi a1, sp, -2048", "li a1, 0x3fffffe000")
}

// The paths that programs name.
func paths() []string {
	return []string{"/b", "/c", "/d/g", "f", "d/f", "/d", "d/d", "/d/../f", "/console", ".", "..", "", "/", "/dev", "a-name-of-more-than-14-bytes", "a-name-of-more-and-others", "//d//f//", "/con", strings.Repeat("x/", 63) + "y", strings.Repeat("x/", 64)}
}

func (d *drawing) path(register string) string {
	if d.s.below(20) == 0 {
		return "li " + register + ", " + pick(d.s, "0", "-1", "0x100000", "1")
	}
	n := d.s.below(len(paths()))
	if d.s.below(2) == 0 {
		n = d.s.below(8)
	}
	return pathIn(register, n)
}

// pathIn gives a line that brings one of the paths into a register.
func pathIn(register string, n int) string { return "la " + register + ", path" + strconv.Itoa(n) }

// somePath gives one of the first paths, most of the time.
func (d *drawing) somePath(register string, from ...int) string {
	if d.s.below(4) == 0 {
		return d.path(register)
	}
	return pathIn(register, pick(d.s, from...))
}

// branch puts a block of its own for the child of a fork.
func (d *drawing) branch(depth int) {
	parent := d.label()
	d.call(api.SysFork)
	d.put("bnez a0, " + parent)
	d.block(depth-1, 1+d.s.below(5))
	if d.s.below(4) > 0 {
		d.call(api.SysExit, "li a0, "+d.number(100))
	}
	d.put(parent + ":")
}

func (d *drawing) loop() {
	label := d.label()
	d.put("li t0, "+strconv.Itoa(1+d.s.below(8)), label+":")
	d.put(d.plain())
	d.put("addi t0, t0, -1", "bnez t0, "+label)
}

// plain gives an instruction that is no call.
func (d *drawing) plain() string {
	return pick(d.s, "addi s1, s1, 1", "sd s1, 0(sp)", "ld s1, 0(sp)", "mul s1, s1, t0", "sb t0, -1(sp)", "lbu s1, -1(sp)", "lui s1, 0x80000", "divw s1, s1, t0", "remu s1, s1, t0", "mulhsu s1, s1, s1", "sraiw s1, s1, 3", "xori s1, s1, -1", "srl s1, s1, t0", "sltu s1, t0, s1", "auipc s1, 1", "sub s1, t0, s1", "la t1, bytes\nsw s1, 8(t1)", "la t1, bytes\nlw s1, 8(t1)", "fence")
}

func (d *drawing) wrong() {
	d.put(pick(d.s, "ebreak", ".word 0", "ld a0, 1(zero)", "sd a0, 0(zero)", "li t0, 6\njr t0", "lui t0, 900\njr t0", "csrrs a0, 0xc01, zero", "wfi", "ld a0, -8(zero)", "li t0, 0x3fffffe000\nld a0, 0(t0)", "li t0, 0x3fffffe000\nsd a0, 0(t0)", "jr sp", "sret"))
}

func (d *drawing) block(depth, n int) {
	for range n {
		d.action(depth)
	}
}

func (d *drawing) action(depth int) {
	if d.quiet {
		d.quietAction()
		return
	}
	switch d.s.below(34) {
	case 0, 1, 2:
		if depth > 0 {
			d.branch(depth)
		} else {
			d.call(api.SysFork)
		}
	case 3, 4:
		d.call(api.SysWait, pick(d.s, "li a0, 0", "la a0, bytes", "li a0, 1"))
	case 5, 6:
		d.call(api.SysPipe, pick(d.s, "la a0, ends", "la a0, ends", "la a0, ends", "li a0, 0"))
	case 7, 8, 9:
		d.call(api.SysRead, d.fd(), d.place(), d.many())
	case 10, 11, 12, 13:
		d.call(api.SysWrite, d.fd(), d.place(), d.many())
	case 14, 15:
		d.call(api.SysKill, "li a0, "+pick(d.s, d.number(8), d.number(8), "-1", "0x100000002"))
	case 16:
		d.time()
	case 17, 18:
		d.call(api.SysClose, d.fd())
	case 19:
		d.call(api.SysExec, d.somePath("a0", 0, 1), "la a1, "+pick(d.s, "args", "args", "args", "bytes", "path1"))
	case 20:
		d.call(api.SysSbrk, "li a0, "+pick(d.s, "0", "1", "100", "4096", "-5000", "20000", "200000", "-1", "-4096", "0x7fffffff", "0x100000001"))
	case 21:
		d.call(pick(d.s, api.SysGetpid, api.SysDup, api.SysDup, api.SysDup, 0, 22, 99, 1<<32|11), d.fd())
	case 22, 23, 24:
		d.call(api.SysOpen, d.path("a0"), "li a1, "+pick(d.s, "0", "0", "1", "2", "0x200", "0x202", "0x202", "0x601", "0x600", "0x400", "0x402", "3"))
		d.put("mv s2, a0")
	case 25, 26:
		d.names()
	case 27:
		d.call(api.SysFstat, d.fd(), pick(d.s, "la a1, bytes", "la a1, bytes", "li a1, 0"))
	case 28, 29, 30:
		d.loop()
	case 31, 32:
		d.names()
	case 33:
		if d.s.below(6) == 0 {
			d.wrong()
		} else {
			d.loop()
		}
	}
}

// names makes one of the calls that name things.
func (d *drawing) names() {
	switch d.s.below(6) {
	case 0:
		d.call(api.SysMknod, d.path("a0"), "li a1, "+pick(d.s, "1", "2", "0x10001", "-1"), "li a2, "+d.number(3))
	case 1:
		d.call(api.SysUnlink, d.path("a0"))
	case 2:
		d.call(api.SysLink, d.somePath("a0", 0, 2, 3), d.path("a1"))
	case 3, 4:
		d.call(api.SysMkdir, d.path("a0"))
	case 5:
		d.call(api.SysChdir, d.somePath("a0", 5, 6, 9))
	}
}

// time makes one of the calls that ask for the time.
func (d *drawing) time() {
	if d.timeless {
		d.loop()
		return
	}
	if d.s.below(3) == 0 {
		d.call(api.SysUptime)
	} else {
		d.call(api.SysSleep, "li a0, "+pick(d.s, d.number(4), d.number(4), "-1", "0x100000001"))
	}
}

// quietAction does what shall hang on the process alone.
func (d *drawing) quietAction() {
	switch d.s.below(6) {
	case 0:
		d.call(api.SysGetpid)
	case 1:
		d.call(api.SysSbrk, "li a0, "+pick(d.s, "0", "1", "100", "4096", "-100", "5000", "-1"))
		d.put("mv s3, a0")
	case 2:
		d.call(pick(d.s, 0, 22, 99, 1<<32|1))
	default:
		d.loop()
	}
}

func (d *drawing) program() string {
	d.put("li s0, "+strconv.Itoa(1+d.s.below(3)), "begin:")
	d.block(2, 3+d.s.below(12))
	d.put("addi s0, s0, -1", "bnez s0, begin")
	if d.s.below(3) > 0 {
		d.call(api.SysExit, "li a0, "+d.number(100))
	} else {
		d.put("end: j end")
	}
	d.put(".data")
	for k, path := range paths() {
		d.put(fmt.Sprintf("path%d: .asciz %q", k, path))
	}
	d.put(".align 3", "args: .dword path0, path1, 0", "bytes: .ascii \"some bytes\"", ".bss", ".zero 5000", ".align 3", "ends: .zero 8")
	return d.lines.String()
}

// drawnEvents gives the lines of ticks and inputs.
func drawnEvents(s *scatter) string {
	var b strings.Builder
	gap := pick(s, 3, 10, 30, 200)
	for k := s.below(gap); k < 500; k += 1 + s.below(gap) {
		fmt.Fprintf(&b, "tick %d\n", k)
	}
	gap = pick(s, 10, 50, 500)
	for k := s.below(gap); k < 500; k += s.below(gap) + s.below(2) {
		fmt.Fprintf(&b, "input %d %s\n", k, quoted([]byte(pick(s, "", "x", "line\n", "two\nlines\n", "\x04", "\b", "more ", "\x15", "a\x7fb\r", "\x00\xff", strings.Repeat("z", 130)))))
	}
	return b.String()
}

// drawnRun gives a script's text.
func drawnRun(s *scatter) string { return drawnRunOf(s, drawing{}) }

// drawnRunOf gives a script's text, whose programs are as told.
func drawnRunOf(s *scatter, how drawing) string {
	var b strings.Builder
	fmt.Fprintf(&b, "frames %d\nbudget %d\ninit /a\n", pick(s, 24, 40, 64, 100, 200, 300), 50+s.below(500))
	for _, path := range []string{"/a", "/b", "/c"} {
		d := drawing{s: s, timeless: how.timeless, quiet: how.quiet}
		fmt.Fprintf(&b, "asm %s\n%send\n", path, d.program())
	}
	b.WriteString("dir /d\ntext /d/g \"some bytes\\n\"\ndev /con 1 7\ndev /dev 7 1\n")
	return b.String() + drawnEvents(s)
}
