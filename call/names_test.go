package call_test

// The rows chdir, mknod, unlink, link, mkdir, and text arguments.

import (
	"fmt"
	"strings"
	"testing"

	"hartix/api"
)

// textCalls are the calls whose first argument is a text.
func textCalls() []uint64 {
	return []uint64{api.SysExec, api.SysChdir, api.SysOpen, api.SysMknod, api.SysUnlink, api.SysLink, api.SysMkdir}
}

// A text that can't be read, or has no end within MaxPath bytes.
func TestTextsThatAreNone(t *testing.T) {
	w := begin(t)
	w.poke(0, stack, []byte(strings.Repeat("a", 200)))
	w.poke(0, top-5, []byte("/d/f/")) // up to the end of the page
	good := w.text(0, stack+1000, "/q")
	for _, number := range textCalls() {
		for _, at := range []uint64{stack, stack + 1, stack + 72, top - 5, top - 1, top, guarded, 1 << 38, minus1} {
			w.nothing(0, number, at, api.OCreate, 1)
		}
	}
	w.nothing(0, api.SysLink, good, stack)
	w.nothing(0, api.SysLink, w.text(0, stack+1000, "/p"), guarded)
	w.nothing(0, api.SysLink, guarded, good)
	w.gives(0, 0, api.SysMkdir, stack+73) // 127 bytes and the 0
	w.want("its name is cut", w.m.x.List(root)[9].Name, strings.Repeat("a", 14))
}

// A text may stand where it can only be read, and across pages.
func TestTextsAcrossPages(t *testing.T) {
	w := begin(t)
	w.gives(0x3000, 0, api.SysSbrk, page)
	for k := range 6 {
		w.gives(0, 0, api.SysChdir, w.text(0, top-uint64(k), "/d//."))
	}
	w.poke(0, code+100, []byte("/p\x00"))
	w.nothing(0, api.SysChdir, code+100)
	w.gives(3, 0, api.SysOpen, code+100, 0)
	w.want("which", w.o.Look().Files[1].Ino, pIno)
}

func TestChdir(t *testing.T) {
	w := begin(t)
	for _, path := range []string{"/none", "/p", "/p/x", "/console", "d/f", "/d\xff"} {
		w.nothing(0, api.SysChdir, w.path(0, path))
	}
	w.gives(0, 0, api.SysChdir, w.path(0, "d"))
	w.want("where", w.look(0).Cwd, dIno)
	w.gives(0, 0, api.SysChdir, w.path(0, ""))
	w.gives(0, 0, api.SysChdir, w.path(0, "."))
	w.gives(3, 0, api.SysOpen, w.path(0, "f"), 0)
	w.nothing(0, api.SysOpen, w.path(0, "p"), 0)
	w.gives(0, 0, api.SysChdir, w.path(0, "../d/../d/.."))
	w.want("where", w.look(0).Cwd, root)
	w.want("references", w.o.Look().Inodes[dIno-1].Refs, 0)
}

// A current directory whose name is taken away is there as long as it is held, and nothing can be made in it.
func TestCurrentDirectoryThatIsGone(t *testing.T) {
	w := begin(t)
	free, inodes := w.r.Count(), len(w.o.Look().Inodes)
	w.gives(0, 0, api.SysMkdir, w.path(0, "/e"))
	w.gives(0, 0, api.SysChdir, w.path(0, "/e"))
	w.fork(0)
	w.gives(0, 0, api.SysUnlink, w.path(0, "/e"))
	w.nothing(0, api.SysMkdir, w.path(0, "x"))
	w.nothing(0, api.SysOpen, w.path(0, "x"), api.OCreate)
	w.nothing(0, api.SysOpen, w.path(0, "."), 0)
	w.nothing(0, api.SysChdir, w.path(0, ".."))
	w.gives(0, 0, api.SysChdir, w.path(0, ""))
	w.gives(3, 0, api.SysOpen, w.path(0, ""), 0)
	w.gives(0, 0, api.SysClose, 3)
	w.gives(0, 0, api.SysChdir, w.path(0, "/"))
	w.want("inodes", len(w.o.Look().Inodes), inodes+1)
	w.end(1, 0)
	w.gives(2, 0, api.SysWait, 0)
	w.want("all is as before", []int{len(w.o.Look().Inodes), w.r.Count()}, []int{inodes, free})
}

func TestMknod(t *testing.T) {
	w := begin(t)
	for k, c := range []struct {
		major, minor uint64
		a, b         int16
	}{
		{0, 0, 0, 0}, {1, 2, 1, 2}, {minus1, minus1, -1, -1}, {0x8000, 0x7FFF, -32768, 32767},
		{0x12345, 0xFFFF8, 0x2345, -8}, {1 << 32, 1<<32 + 3, 0, 3}, {1 << 16, 1<<17 + 1, 0, 1},
	} {
		path := fmt.Sprint("/n", k)
		w.gives(0, 0, api.SysMknod, w.path(0, path), c.major, c.minor)
		inodes := w.o.Look().Inodes
		got := inodes[len(inodes)-1]
		w.want(path, []any{got.Type, got.Major, got.Minor, got.Links}, []any{api.TypeDev, c.a, c.b, 1})
		next, fd := w.ask(0, api.SysOpen, w.path(0, path), api.ORdwr)
		w.want("it can be opened just if it is the console's", []any{next, fd}, []any{api.NextUser, map[bool]int64{true: 3, false: -1}[c.a == 1]})
		w.ask(0, api.SysClose, 3)
	}
	for _, path := range []string{"/n0", "/", "", ".", "/d/..", "/none/x", "/p/x", "/console"} {
		w.nothing(0, api.SysMknod, w.path(0, path), 1, 1)
	}
}

func TestMkdir(t *testing.T) {
	w := begin(t)
	w.gives(0, 0, api.SysChdir, w.path(0, "d"))
	w.gives(0, 0, api.SysMkdir, w.path(0, "sub"))
	w.gives(0, 0, api.SysMkdir, w.path(0, "/d/sub/sub"))
	w.gives(0, 0, api.SysChdir, w.path(0, "sub/sub"))
	for _, path := range []string{"/d/sub", "/", "", ".", "..", "/none/x", "/p/x", "/p"} {
		w.nothing(0, api.SysMkdir, w.path(0, path))
	}
	w.leave(1)
	w.gives(0, 0, api.SysMkdir, w.path(0, "last"))
	w.nothing(0, api.SysMkdir, w.path(0, "more"))
}

func TestLinkAndUnlink(t *testing.T) {
	w := begin(t)
	name := func(text string) uint64 { return w.text(0, stack+200, text) }
	w.gives(0, 0, api.SysChdir, w.path(0, "/d"))
	w.gives(0, 0, api.SysLink, w.path(0, "f"), name("/g"))
	w.gives(0, 0, api.SysLink, w.path(0, "/g"), name("h"))
	w.want("names", w.o.Look().Inodes[fIno-1].Links, 3)
	w.gives(0, 0, api.SysLink, w.path(0, "/console"), name("/tty"))
	for _, c := range [][2]string{{"/none", "/x"}, {"/d", "/x"}, {"/", "/x"}, {"/p", "/g"}, {"/p", "/p"}, {"/p", "/none/x"}, {"/p", ""}, {"/p", "/d/.."}, {"/p/x", "/x"}, {"/p", "/p/x"}} {
		w.nothing(0, api.SysLink, w.path(0, c[0]), name(c[1]))
	}
	for _, path := range []string{"/none", "/", "", ".", "..", "/d/none", "/p/x", "/d"} {
		w.nothing(0, api.SysUnlink, w.path(0, path))
	}
	w.gives(0, 0, api.SysUnlink, w.path(0, "/d/f"))
	w.nothing(0, api.SysUnlink, w.path(0, "f"))
	w.gives(3, 0, api.SysOpen, w.path(0, "h"), 0)
	w.gives(5, 0, api.SysRead, 3, stack, 5)
	w.gives(0, 0, api.SysUnlink, w.path(0, "/g"))
	w.gives(0, 0, api.SysUnlink, w.path(0, "h"))
	w.gives(7, 0, api.SysRead, 3, stack, 99) // it has no name any more, but is held
	free := w.r.Count()
	w.gives(0, 0, api.SysClose, 3)
	w.want("free", w.r.Count(), free+1)
	w.gives(0, 0, api.SysUnlink, w.path(0, "/console"))
	w.gives(1, 0, api.SysWrite, 1, stack, 1) // it is open still
}

// A program that is unlinked runs on: its space is its own.
func TestUnlinkOfTheProgram(t *testing.T) {
	w := begin(t)
	w.gives(0, 0, api.SysUnlink, w.path(0, "/p"))
	w.gives(1, 0, api.SysGetpid)
	w.fork(0)
}
