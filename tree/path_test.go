package tree_test

// P9.3, P9.4, P9.13.

import (
	"math"
	"slices"
	"strings"
	"testing"

	"hartix/api"
	"hartix/tree"
)

func TestSplitByHand(t *testing.T) {
	for _, c := range []struct {
		path string
		want []string
	}{
		{"", nil}, {"/", nil}, {"///", nil}, {"a", []string{"a"}}, {"/a", []string{"a"}}, {"a/", []string{"a"}}, {"//a//b//", []string{"a", "b"}},
		{".", []string{"."}}, {"/./../..a/", []string{".", "..", "..a"}}, {" / ", []string{" ", " "}}, {`a\b`, []string{`a\b`}},
		{"thirteen byte/fourteen bytes/fifteen bytes!!", []string{"thirteen byte", "fourteen bytes", "fifteen bytes!"}},
		{"äöüäöüäöü/x", []string{"äöüäöüä", "x"}}, {"aäöüäöüäöü", []string{"aäöüäöü\xc3"}}, {"\xff\x80/\x01", []string{"\xff\x80", "\x01"}},
		{"a/a/a", []string{"a", "a", "a"}},
		{strings.Repeat("x", 127), []string{strings.Repeat("x", 14)}},
		{strings.Repeat("/", 127), nil},
		{"a" + strings.Repeat("/b", 63), append([]string{"a"}, slices.Repeat([]string{"b"}, 63)...)},
	} {
		got, ok := tree.Split(c.path)
		if !ok || !slices.Equal(got, c.want) || (got == nil) != (c.want == nil) {
			t.Errorf("Split(%q) = %q, %v, want %q", c.path, got, ok, c.want)
		}
	}
}

func TestSplitRefuses(t *testing.T) {
	for _, path := range []string{"\x00", "a\x00", "\x00a", "/a/\x00/b", strings.Repeat("a", 126) + "\x00", strings.Repeat("a", 128), strings.Repeat("/", 128), strings.Repeat("a/", 64), strings.Repeat("/", 129), strings.Repeat("a", 1<<20)} {
		if got, ok := tree.Split(path); got != nil || ok {
			t.Errorf("Split(%.20q, %d bytes) = %q, %v", path, len(path), got, ok)
		}
	}
}

func drawnText(s *scatter, most int) string {
	b := make([]byte, s.below(most))
	for k := range b {
		b[k] = pick(s, '/', '/', 'a', 'b', '.', byte(s.next())|1, byte(1+s.below(255)))
	}
	if s.below(20) == 0 && len(b) > 0 {
		b[s.below(len(b))] = 0
	}
	return string(b)
}

func TestSplitOfDrawnPaths(t *testing.T) {
	s := scatter(3)
	for range 20000 {
		path := drawnText(&s, 140)
		got, ok := tree.Split(path)
		want, wantOk := pieces(path)
		if ok != wantOk || !slices.Equal(got, want) || (got == nil) != (want == nil) {
			t.Fatalf("Split(%q) = %q, %v, want %q, %v", path, got, ok, want, wantOk)
		}
	}
}

// grove gives a tree of some depth: 2 /a, 3 /a/b, 4 /a/b/f, 5 /c (a device), 6 gone, held, 7 a file that is held without a name, and 8 /a/fourteen bytes.
func grove(t *testing.T, frames int) *world {
	t.Helper()
	w := begin(t, frames)
	w.made(1, "/a", dir)
	w.made(2, "b", dir)
	w.made(1, "a/b/f", file)
	w.made(3, "../../c", device)
	w.made(1, "gone", dir)
	w.made(1, "nameless", file)
	w.made(2, "fourteen bytes", file)
	w.write(7, 0, []byte("without a name"))
	for k, name := range []string{"gone", "nameless"} {
		w.code("Hold", w.hold(6+k), api.OK)
		w.code("Unlink", w.unlink(1, name), api.OK)
	}
	return w
}

func TestFindByHand(t *testing.T) {
	w := grove(t, 20)
	for _, c := range []struct {
		cwd   int
		path  string
		want  int
		errno api.Errno
	}{
		{1, "", 1, 0}, {1, "/", 1, 0}, {4, "/", 1, 0}, {3, "", 3, 0}, {5, "", 5, 0}, {6, "", 6, 0}, {7, "", 7, 0}, {6, "/a", 2, 0}, {7, "/a/b/f", 4, 0},
		{1, ".", 1, 0}, {1, "..", 1, 0}, {1, "../../..", 1, 0}, {2, "..", 1, 0}, {3, "..", 2, 0}, {3, "../..", 1, 0}, {3, "../../a/./b/../b/f", 4, 0},
		{2, "a", 0, api.ErrTreeNone}, {2, "/b", 0, api.ErrTreeNone}, {2, "b", 3, 0}, {1, "A", 0, api.ErrTreeNone}, {1, "a/bb", 0, api.ErrTreeNone}, {1, "aa", 0, api.ErrTreeNone},
		{1, "none/a", 0, api.ErrTreeNone}, {1, "none/..", 0, api.ErrTreeNone}, {1, "gone", 0, api.ErrTreeNone}, {1, "nameless", 0, api.ErrTreeNone},
		{1, "c/x", 0, api.ErrTreeDir}, {1, "c/.", 0, api.ErrTreeDir}, {1, "c/..", 0, api.ErrTreeDir}, {1, "a/b/f/x", 0, api.ErrTreeDir}, {1, "c//", 5, 0},
		{4, ".", 0, api.ErrTreeDir}, {5, "..", 0, api.ErrTreeDir}, {7, "x", 0, api.ErrTreeDir}, {6, ".", 0, api.ErrTreeNone}, {6, "..", 0, api.ErrTreeNone}, {6, "a", 0, api.ErrTreeNone},
		{1, "a/fourteen bytes", 8, 0}, {1, "a/fourteen bytes and more", 8, 0}, {1, "a/fourteen byte", 0, api.ErrTreeNone}, {2, "fourteen bytes/x", 0, api.ErrTreeDir},
		{0, "/", 0, api.ErrTreeIno}, {-1, "/", 0, api.ErrTreeIno}, {9, "/a", 0, api.ErrTreeIno}, {199, "", 0, api.ErrTreeIno}, {200, "", 0, api.ErrTreeIno},
		{math.MaxInt, "", 0, api.ErrTreeIno}, {math.MinInt, "a", 0, api.ErrTreeIno}, {1<<32 + 1, "a", 0, api.ErrTreeIno}, {257, "a", 0, api.ErrTreeIno}, {65537, "a", 0, api.ErrTreeIno},
		{9, "a\x00", 0, api.ErrTreeIno}, {1, "a\x00", 0, api.ErrTreePath}, {4, "x\x00", 0, api.ErrTreePath}, {4, strings.Repeat("x", 128), 0, api.ErrTreePath}, {1, "none/" + strings.Repeat("x", 128), 0, api.ErrTreePath},
		{1, strings.Repeat("a/../", 25) + "a", 2, 0}, {1, strings.Repeat("/", 126) + "a", 2, 0}, {1, strings.Repeat("/", 127) + "a", 0, api.ErrTreePath},
	} {
		if got, errno := w.find(c.cwd, c.path); got != c.want || errno != c.errno {
			t.Errorf("Find(%d, %q) = %d, %d, want %d, %d", c.cwd, c.path, got, errno, c.want, c.errno)
		}
	}
	w.check("Find")
}

// Every name of a directory of several blocks is found, in blocks behind empty ones too.
func TestFindInManyEntries(t *testing.T) {
	w := begin(t, 16)
	f := w.made(1, "/f", file)
	names := manyNames(700)
	w.linkAll(f, "/", names)
	for k, name := range names {
		if k%2 == 0 {
			w.x.Unlink(1, name)
			w.m.wantUnlink(1, name)
		}
	}
	w.check("every other name taken away")
	for k, name := range names {
		want := api.OK
		if k%2 == 0 {
			want = api.ErrTreeNone
		}
		_, errno := w.find(1, name)
		w.code("Find of "+name, errno, want)
	}
}

// allPaths gives all paths of up to three of these names, from the root and from where one stands.
func allPaths(names ...string) []string {
	all := []string{"", "/"}
	for _, a := range names {
		all = append(all, a, "/"+a)
		for _, b := range names {
			all = append(all, a+"/"+b, "/"+a+"/"+b)
			for _, c := range names {
				all = append(all, a+"/"+b+"/"+c)
			}
		}
	}
	return all
}

// P9.13: what a name leads to turns where a path goes through it, and nowhere else.
func TestNamesTurnWhatGoesThroughThem(t *testing.T) {
	w := grove(t, 30)
	paths := allPaths("a", "b", "f", "c", "..", ".", "new")
	found := func() map[string]int {
		all := map[string]int{}
		for _, path := range paths {
			all[path], _ = w.find(1, path)
		}
		return all
	}
	turned := func(what string, before map[string]int, through func(path string) bool) {
		t.Helper()
		n := 0
		for path, now := range found() {
			if now != before[path] {
				n++
				if !through(path) {
					t.Errorf("%s: %q leads from %d to %d", what, path, before[path], now)
				}
			}
		}
		if n == 0 {
			t.Errorf("%s turned nothing", what)
		}
	}
	has := func(name string) func(string) bool {
		return func(path string) bool { return slices.Contains(strings.Split(path, "/"), name) }
	}
	before := found()
	ino := w.made(1, "a/new", dir)
	turned("Make", before, has("new"))
	if n, _ := w.find(1, "/a/new"); n != ino {
		t.Errorf("what was made is found as %d", n)
	}
	before = found()
	w.code("Link", w.link(4, 2, "new/f"), api.OK)
	turned("Link", before, has("f"))
	before = found()
	w.code("Unlink", w.unlink(3, "f"), api.OK)
	turned("Unlink", before, has("f"))
	before = found()
	w.code("Unlink", w.unlink(3, "../b"), api.OK)
	turned("Unlink", before, has("b"))
}

// Names that agree in 14 bytes are one, whatever is done with them.
func TestLongNames(t *testing.T) {
	w := begin(t, 20)
	d := w.made(1, "/directory of long names", dir)
	if n, _ := w.find(1, "directory of l/"); n != d {
		t.Errorf("found as %d", n)
	}
	f := w.made(1, "directory of long/abcdefghijklmnXXX", file)
	for _, path := range []string{"abcdefghijklmn", "abcdefghijklmnYYY", "abcdefghijklmno"} {
		if n, _ := w.find(d, path); n != f {
			t.Errorf("%s is found as %d", path, n)
		}
		w.code("Make", w.make(d, path, file), api.ErrTreeTaken)
		w.code("Link", w.link(f, d, path), api.ErrTreeTaken)
	}
	w.code("Make", w.make(d, "abcdefghijklm", file), api.OK)
	w.code("Unlink", w.unlink(d, "abcdefghijklmnZZZ"), api.OK)
	w.code("Unlink", w.unlink(d, "abcdefghijklmn"), api.ErrTreeNone)
	w.code("Make", w.make(d, "..............", file), api.OK)
	w.code("Make", w.make(d, ".............../", file), api.ErrTreeTaken)
	w.code("Make", w.make(d, "...", file), api.OK)
}
