package census_test

// P17.2: how often open files and inodes are held and named.

import (
	"slices"
	"testing"

	"hartix/api"
)

func num(num, held, named int) api.Count { return api.Count{Num: num, Held: held, Named: named} }

func (v seen) hasCounts(t *testing.T, what string, files, inodes []api.Count) {
	t.Helper()
	got := v.holdTake(t, what)
	if !slices.Equal(got.Files, files) || !slices.Equal(got.Inodes, inodes) {
		t.Errorf("%s: %v, %v, want %v, %v", what, got.Files, got.Inodes, files, inodes)
	}
}

func TestCounts(t *testing.T) {
	files := []api.Count{num(0, 3, 3), num(5, 1, 1), num(9, 2, 2), num(40, 1, 1), num(99, 1, 1)}
	inodes := []api.Count{num(1, 2, 2), num(2, 1, 1), num(3, 1, 1), num(4, 1, 1), num(199, 0, 0)}
	v := sound()
	v.hasCounts(t, "sound", files, inodes)

	v.l.Procs[2].Fds[4] = 5
	more := slices.Clone(files)
	more[1].Named = 2
	v.hasCounts(t, "a zombie's descriptor counts", more, inodes)

	v = sound()
	v.l.Procs[2].Cwd = 2
	v.hasCounts(t, "a zombie's Cwd does not count", files, inodes)
	v.l.Procs[2].State = 77
	more = slices.Clone(inodes)
	more[1].Named = 2
	v.hasCounts(t, "that of one whose state may not be does", files, more)

	v = sound()
	v.l.Files[0].Refs, v.l.Inodes[1].Refs = -5, 1<<40
	more, most := slices.Clone(files), slices.Clone(inodes)
	more[0].Held, most[1].Held = -5, 1<<40
	v.hasCounts(t, "Held is what is said", more, most)
}

func TestCountsOfNumbersThatMayNotBe(t *testing.T) {
	v := sound()
	v.l.Files = []api.FileLook{{Num: -1, Refs: 2}, {Num: 0}, {Num: 0, Refs: 1}, {Num: 200}}
	v.l.Procs[0].Fds[7] = 200
	v.l.Inodes = []api.InodeLook{{Ino: 2, Refs: 3}, {Ino: -4}, {Ino: 2}}
	v.l.Procs[0].Cwd = -4
	v.hasCounts(t, "other numbers", []api.Count{num(-1, 2, 64-9), num(0, 0, 3), num(0, 1, 3), num(200, 0, 1)}, []api.Count{num(2, 3, 1), num(-4, 0, 1), num(2, 0, 1)})
}

// TestWhatNamesAnInode: an open file of another kind names no inode, whatever its Ino is.
func TestWhatNamesAnInode(t *testing.T) {
	for kind, want := range map[int]int{api.FileNone: 2, api.FileIno: 3, api.FileReader: 2, api.FileWriter: 2, 4: 2, -1: 2} {
		v := sound()
		v.l.Files[1].Kind, v.l.Files[1].Ino = kind, 1
		if got := v.holdTake(t, "an Ino").Inodes[0]; got != num(1, 2, want) {
			t.Errorf("kind %d: %v, want %d", kind, got, want)
		}
	}
}

func TestCountsOfNothing(t *testing.T) {
	got := seen{frames: 1}.holdTake(t, "the zero look")
	if got.Files != nil || got.Inodes != nil || len(got.Frames) != 1 {
		t.Errorf("%+v", got)
	}
	v := seen{1, api.OsLook{Procs: []api.ProcLook{}, Files: []api.FileLook{}, Inodes: []api.InodeLook{}, Pipes: []api.PipeLook{}}, []uint64{}}
	if got = v.holdTake(t, "a look of empty lists"); got.Files != nil || got.Inodes != nil {
		t.Errorf("%+v", got)
	}
}
