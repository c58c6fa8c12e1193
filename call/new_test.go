package call_test

// P15.1 and P15.2.

import (
	"bytes"
	"errors"
	"fmt"
	"reflect"
	"strings"
	"testing"

	"hartix/api"
	"hartix/call"
	"hartix/ram"
)

// refusedWith boots what must be refused so.
func refusedWith(t *testing.T, frames int, files []api.BootFile, first string, at int, want api.Errno) {
	t.Helper()
	_, fault := boot(t, frames, files, first)
	if fault == nil || *fault != (api.Fault{Layer: "call", At: at, Err: want}) {
		t.Errorf("%q, %d files: %v, want %d at %d", first, len(files), fault, want, at)
	}
}

func TestWhatAProcessBeginsWith(t *testing.T) {
	w := begin(t)
	l := w.o.Look()
	p := l.Procs[0]
	w.want("the first process", []int{len(l.Procs), p.Slot, p.Pid, p.Parent, p.State, p.Cwd, l.NextPid}, []int{1, 0, 1, 0, api.ProcRun, root, 2})
	w.want("in the midst of a call", []any{p.InCall, p.Pending, p.Killed, p.Chan, p.Status}, []any{false, api.Pending{}, false, api.Chan{}, int32(0)})
	w.want("the console's inode", l.Inodes[1], api.InodeLook{Ino: terminalIno, Type: api.TypeDev, Major: 1, Links: 1, Refs: 1})
	w.want("the root's references", l.Inodes[0].Refs, 1)
	w.want("console", l.Console, api.ConsoleState{})
	w.want("printed", w.o.Output(), []byte(nil))
	w.want("pipes", l.Pipes, []api.PipeLook(nil))
	if status, over := w.o.Ended(); status != 0 || over {
		t.Errorf("Ended: %d, %v", status, over)
	}
}

// Boot files have what they are said to have, and those that go through the console's directory find it.
func TestBootFiles(t *testing.T) {
	w := begin(t)
	for path, want := range map[string]api.InodeLook{
		"/console": {Ino: terminalIno, Type: api.TypeDev, Major: 1},
		"/p":       {Ino: pIno, Type: api.TypeFile, Size: 124},
		"/d":       {Ino: dIno, Type: api.TypeDir, Size: 48},
		"/d/f":     {Ino: fIno, Type: api.TypeFile, Size: 12},
		"/odd":     {Ino: oddIno, Type: api.TypeDev, Major: 7, Minor: 1},
		"/con":     {Ino: conIno, Type: api.TypeDev, Major: 1, Minor: 9},
	} {
		ino, errno := w.m.x.Find(root, path)
		got := w.m.x.Look(ino)
		got.Links, got.Refs, got.Blocks = 0, 0, nil
		w.want(path, []any{errno, got}, []any{api.OK, want})
	}
}

func TestBootFilesWithoutSense(t *testing.T) {
	some := []byte("x")
	for _, f := range []api.BootFile{
		{Path: "/a", Type: 0}, {Path: "/a", Type: -1}, {Path: "/a", Type: 4}, {Path: "/a", Type: 1 << 32},
		{Path: "/a", Type: api.TypeDir, Data: some}, {Path: "/a", Type: api.TypeDev, Data: some}, {Path: "/a", Type: api.TypeDev, Major: 1, Data: some},
		{Path: "/a", Type: api.TypeDir, Major: 1}, {Path: "/a", Type: api.TypeDir, Minor: -1},
		{Path: "/a", Type: api.TypeFile, Major: 1}, {Path: "/a", Type: api.TypeFile, Minor: 1}, {Path: "/a", Type: api.TypeFile, Major: -1, Data: some},
		{Path: "/console", Type: 7}, {Path: "", Type: api.TypeDir, Data: some}, // ahead of what tree.Make refuses
		{},
	} {
		refusedWith(t, 64, append(exampleFiles(), f), "/p", 2, api.ErrCallBoot)
	}
	for _, f := range []api.BootFile{
		{Path: "/a", Type: api.TypeFile}, {Path: "/a", Type: api.TypeFile, Data: []byte{}}, {Path: "/a", Type: api.TypeDir, Data: []byte{}},
		{Path: "/a", Type: api.TypeDev}, {Path: "/a", Type: api.TypeDev, Major: -1, Minor: -32768, Data: []byte{}}, {Path: "a", Type: api.TypeFile},
	} {
		if _, fault := boot(t, 64, append(exampleFiles(), f), "/p"); fault != nil {
			t.Errorf("%+v: %v", f, fault)
		}
	}
}

func TestBootFilesThatTheTreeRefuses(t *testing.T) {
	for _, c := range []struct {
		path string
		want api.Errno
	}{
		{"/console", api.ErrTreeTaken}, {"console", api.ErrTreeTaken}, {"/d", api.ErrTreeTaken}, {"/p", api.ErrTreeTaken},
		{"/none/x", api.ErrTreeNone}, {"/p/x", api.ErrTreeDir}, {"/console/x", api.ErrTreeDir},
		{"", api.ErrTreeName}, {"/", api.ErrTreeName}, {"/d/..", api.ErrTreeName}, {".", api.ErrTreeName},
		{"/a\x00b", api.ErrTreePath}, {strings.Repeat("a", 128), api.ErrTreePath},
	} {
		for _, typ := range []int{api.TypeDir, api.TypeFile, api.TypeDev} {
			refusedWith(t, 64, append(exampleFiles(), api.BootFile{Path: c.path, Type: typ}), "/none", 2, c.want)
		}
	}
	if _, fault := boot(t, 64, append(exampleFiles(), api.BootFile{Path: strings.Repeat("a", 127), Type: api.TypeFile}), "/p"); fault != nil {
		t.Error(fault)
	}
}

// Files go by their order: the first that is refused is told.
func TestFilesGoByOrder(t *testing.T) {
	bad, taken := api.BootFile{Type: 9}, api.BootFile{Path: "/console", Type: api.TypeFile}
	dir, in := api.BootFile{Path: "/a", Type: api.TypeDir}, api.BootFile{Path: "/a/b", Type: api.TypeFile}
	refusedWith(t, 64, []api.BootFile{bad, taken}, "/p", 0, api.ErrCallBoot)
	refusedWith(t, 64, []api.BootFile{taken, bad}, "/p", 0, api.ErrTreeTaken)
	refusedWith(t, 64, []api.BootFile{in, dir}, "/p", 0, api.ErrTreeNone)
	refusedWith(t, 64, []api.BootFile{dir, in}, "/p", 2, api.ErrTreeNone) // the first program
	refusedWith(t, 64, nil, "/p", 0, api.ErrTreeNone)
}

func TestHowManyFiles(t *testing.T) {
	files := exampleFiles()
	for k := len(files); k < 64; k++ {
		files = append(files, api.BootFile{Path: fmt.Sprint(k), Type: api.TypeFile})
	}
	w, fault := boot(t, 64, files, "/p")
	if fault != nil || len(w.o.Look().Inodes) != 66 {
		t.Fatal(fault)
	}
	more := append(files, api.BootFile{})
	refusedWith(t, 64, more, "/p", 64, api.ErrCallBoot)
	refusedWith(t, 1, more, "/none", 64, api.ErrCallBoot) // ahead of everything
	refusedWith(t, 64, make([]api.BootFile, 1000), "/p", 64, api.ErrCallBoot)
}

// With every number of frames New is refused, or not, as the chapter says.
func TestFramesOfTheBeginning(t *testing.T) {
	seen := map[string]int{}
	for frames := 1; frames < 40; frames++ {
		for _, first := range []string{"/p", "/bad", "/none", "/d"} {
			what := "begun"
			if _, fault := boot(t, frames, disk(), first); fault != nil {
				what = fmt.Sprint(first, fault.At, fault.Err)
			}
			seen[what]++
		}
	}
	for _, c := range []struct {
		first string
		at    int
		errno api.Errno
		times int
	}{
		{"/p", -1, api.ErrCallRoom, 1},  // the trampoline alone
		{"/p", 0, api.ErrCallRoom, 1},   // and the root's block
		{"/p", 1, api.ErrCallRoom, 1},   // and that of /p
		{"/p", 2, api.ErrCallRoom, 1},   // and that of /long
		{"/p", 3, api.ErrTreeRoom, 1},   // and that of /bad
		{"/p", 4, api.ErrCallRoom, 1},   // and that of /d
		{"/p", 7, api.ErrCallRoom, 1},   // no trapframe
		{"/p", 7, api.ErrExecRoom, 8},   // eight frames for the program
		{"/bad", 7, api.ErrCallRoom, 1}, // the trapframe is asked first
		{"/bad", 7, api.ErrExecFile, 32},
		{"/none", 7, api.ErrTreeNone, 33},
		{"/d", 7, api.ErrCallInit, 33},
	} {
		if what := fmt.Sprint(c.first, c.at, error(c.errno)); seen[what] != c.times {
			t.Errorf("%s came %d times, want %d", what, seen[what], c.times)
		}
	}
	if seen["begun"] != 39-1-5-1-8 {
		t.Errorf("begun %d times", seen["begun"])
	}
}

// Fewer bytes than there are: for want of frames, or since no inode has so many.
func TestFilesThatAreTooLong(t *testing.T) {
	for _, c := range []struct {
		frames, bytes int
		refused       bool
	}{{20, 8 * page, false}, {20, 30 * page, true}, {200, 262144, false}, {200, 262145, true}, {200, 300000, true}} {
		files := append(exampleFiles(), api.BootFile{Path: "/long", Type: api.TypeFile, Data: bytes.Repeat([]byte{7}, c.bytes)})
		_, fault := boot(t, c.frames, files, "/d")
		if c.refused != (fault.At == 2) || c.refused && fault.Err != error(api.ErrCallRoom) {
			t.Errorf("%d bytes in %d frames: %v", c.bytes, c.frames, fault)
		}
	}
}

func TestFirstPrograms(t *testing.T) {
	for _, c := range []struct {
		first string
		want  api.Errno
	}{
		{"", api.ErrCallInit}, {"/", api.ErrCallInit}, {"/d", api.ErrCallInit}, {"/console", api.ErrCallInit}, {"/odd", api.ErrCallInit},
		{"/none", api.ErrTreeNone}, {"/p/x", api.ErrTreeDir}, {"/p\x00", api.ErrTreePath}, {"/" + strings.Repeat("p", 127), api.ErrTreePath},
		{"/bad", api.ErrExecFile}, {"/d/f", api.ErrExecFile},
	} {
		refusedWith(t, 100, disk(), c.first, 7, c.want)
	}
	for _, first := range []string{"/p", "p", "d/../p", "/./p/", "/d/.././/p"} {
		w, fault := boot(t, 100, disk(), first)
		if fault != nil {
			t.Fatalf("%q: %v", first, fault)
		}
		at := w.look(0).Regs.X[2]
		b := w.in(0, at, 8)
		arg := uint64(b[0]) | uint64(b[1])<<8
		w.want("its argument is the path as it is", string(w.in(0, arg, len(first)+1)), first+"\x00")
	}
	w, fault := boot(t, 100, disk(), "/long")
	if fault != nil {
		t.Fatal(fault)
	}
	w.want("the entry", w.look(0).Regs.Pc, uint64(4))
	w.want("free", w.r.Count(), 99-6-(1+6+5))
}

// A memory that ram did not give is one without frames; of one whose frames others have taken is promised only that New ends.
func TestOtherMemories(t *testing.T) {
	for _, r := range []*ram.Ram{nil, {}} {
		o, err := call.New(r, nil, "/p")
		if o != nil || !reflect.DeepEqual(err, error(&api.Fault{Layer: "call", At: -1, Err: api.ErrCallRoom})) {
			t.Errorf("%v, %v", o, err)
		}
		_, err = call.New(r, make([]api.BootFile, 65), "/p")
		if !reflect.DeepEqual(err, error(&api.Fault{Layer: "call", At: 64, Err: api.ErrCallBoot})) {
			t.Errorf("%v", err)
		}
	}
	for taken := range 64 {
		r := newRam(t, 64)
		for range taken {
			r.Alloc()
		}
		call.New(r, exampleFiles(), "/p")
		call.New(r, exampleFiles(), "/p")
	}
}

func TestFaultsAreNew(t *testing.T) {
	_, one := call.New(nil, nil, "")
	_, two := call.New(nil, nil, "")
	if one == two || !errors.Is(one, api.ErrCallRoom) || !errors.Is(two, api.ErrCallRoom) {
		t.Errorf("%v, %v", one, two)
	}
}

// What is handed in is neither changed nor kept.
func TestBootFilesAreNeitherChangedNorKept(t *testing.T) {
	data := append(smallest(), "room behind it"...)
	files := append(disk(), api.BootFile{Path: "/mine", Type: api.TypeFile, Data: data[:124]}, api.BootFile{Path: "spare"})
	before := append([]byte(nil), data...)
	w, fault := boot(t, 100, files[:8], "/mine")
	if fault != nil {
		t.Fatal(fault)
	}
	if !bytes.Equal(data, before) || files[8].Path != "spare" || files[7].Path != "/mine" {
		t.Error("changed")
	}
	for k := range data {
		data[k] ^= 0xFF
	}
	for k := range files {
		clear(files[k].Data)
		files[k] = api.BootFile{}
	}
	w.check("the files were spoiled")
	w.gives(2, 0, api.SysFork)
}
