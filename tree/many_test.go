package tree_test

// Directories with many entries, made without holding everything against each other behind each call.

import (
	"strconv"

	"hartix/api"
)

func manyNames(n int) []string {
	all := make([]string, n)
	for k := range all {
		all[k] = "n" + strconv.Itoa(k)
	}
	return all
}

// linkAll gives a file many names in the directory that a path with a slash behind it leads to.
func (w *world) linkAll(ino int, directory string, names []string) {
	w.t.Helper()
	at, _ := w.m.wantFind(1, directory)
	for _, name := range names {
		if errno := w.x.Link(ino, 1, directory+name); errno != api.OK {
			w.t.Fatalf("Link of %s = %d", directory+name, errno)
		}
		w.m.nodes[at].slots = append(w.m.nodes[at].slots, slot{ino, name})
	}
	w.check("many names")
}

// makeAll makes inodes until so many are left.
func (w *world) makeAll(directory string, left int) {
	w.t.Helper()
	for _, name := range manyNames(w.x.Left() - left) {
		ino, errno := w.x.Make(1, directory+name, file, 0, 0)
		want, wantErrno := w.m.wantMake(w.r.Count(), 1, directory+name, file, 0, 0)
		if ino != want || errno != api.OK || wantErrno != api.OK {
			w.t.Fatalf("Make of %s = %d, %d, want %d, %d", directory+name, ino, errno, want, wantErrno)
		}
	}
	w.check("many files")
}

// fillUp gives the directory that a path leads to all the entries that a block has room for, so that its size is a multiple of 4096.
func (w *world) fillUp(ino int, directory string) {
	w.t.Helper()
	at, _ := w.m.wantFind(1, directory)
	w.linkAll(ino, directory, manyNames(256-len(w.m.nodes[at].slots)))
}
