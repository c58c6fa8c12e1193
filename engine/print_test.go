package engine_test

// P18.2: scripts as texts.

import (
	"reflect"
	"strings"
	"testing"

	"hartix/api"
	"hartix/engine"
)

// prints asks for a text.
func prints(t *testing.T, s api.Script, want string) {
	t.Helper()
	got, err := checkPrint(t, s)
	if err != nil || got != want {
		t.Errorf("Print of %s: %s, %v, want %s", shownScript(s), shown(got), err, shown(want))
	}
}

// refusesPrint asks for a refusal of Print.
func refusesPrint(t *testing.T, s api.Script, at int, reason api.Errno) {
	t.Helper()
	if _, err := checkPrint(t, s); !reflect.DeepEqual(err, refusedAt(at, reason)) {
		t.Errorf("Print: %v, want errno %d at %d", err, reason, at)
	}
}

func numbersUpTo(n int) []int {
	var all []int
	for k := range n {
		all = append(all, k)
	}
	return all
}

func TestPrint(t *testing.T) {
	prints(t, api.Script{}, "frames 0\nbudget 0\ninit \"\"\n")
	prints(t, api.Script{Frames: 64, Budget: 1000, Init: "/a"}, "frames 64\nbudget 1000\ninit \"/a\"\n")
	prints(t, api.Script{Frames: 2147483647, Budget: 2147483647, Init: "a b#\"\\"}, "frames 2147483647\nbudget 2147483647\ninit \"a b#\\\"\\\\\"\n")
	prints(t, api.Script{
		Frames: 1, Budget: 2, Init: "i",
		Files: []api.BootFile{
			{Path: "/d", Type: api.TypeDir},
			{Path: "/c", Type: api.TypeDev, Major: -32768, Minor: 32767},
			{Path: "/e", Type: api.TypeFile},
			{Path: "/f", Type: api.TypeFile, Data: []byte("a\xff\x00")},
		},
		Ticks:  []int{5, 3, 3},
		Inputs: []api.Input{{At: 9, Data: []byte("hi\n")}, {At: 0}},
	}, "frames 1\nbudget 2\ninit \"i\"\ndir \"/d\"\ndev \"/c\" -32768 32767\nbytes \"/e\"\nend\nbytes \"/f\"\n61ff00\nend\ntick 5 3 3\ninput 9 \"hi\\n\"\ninput 0 \"\"\n")
}

func TestPrintedLines(t *testing.T) {
	for _, n := range []int{0, 1, 31, 32, 33, 64, 65, 1000} {
		text, _ := checkPrint(t, api.Script{Files: []api.BootFile{fileOf("/f", strings.Repeat("\x5a", n))}})
		want := "bytes \"/f\"\n" + strings.Repeat(strings.Repeat("5a", 32)+"\n", n/32)
		if n%32 > 0 {
			want += strings.Repeat("5a", n%32) + "\n"
		}
		if !strings.HasSuffix(text, "init \"\"\n"+want+"end\n") {
			t.Errorf("%d bytes: %q", n, text)
		}
	}
	for _, n := range []int{0, 1, 15, 16, 17, 32, 33, 4096} {
		text, _ := checkPrint(t, api.Script{Ticks: numbersUpTo(n)})
		lines := strings.Split(strings.TrimPrefix(text, "frames 0\nbudget 0\ninit \"\"\n"), "\n")
		if len(lines)-1 != (n+15)/16 {
			t.Errorf("%d ticks: %q", n, text)
		}
		for k, line := range lines[:len(lines)-1] {
			if words := strings.Split(line, " "); words[0] != "tick" || len(words)-1 != min(16, n-16*k) {
				t.Errorf("%d ticks: %q", n, line)
			}
		}
	}
}

// Every byte, in each of the places where words are quoted.
func TestPrintedBytes(t *testing.T) {
	for b := range 256 {
		text := "a" + string([]byte{byte(b)}) + "b"
		want := quoted([]byte(text))
		switch b {
		case 0:
			want = `"a\x00b"`
		case 9:
			want = `"a\tb"`
		case 10:
			want = `"a\nb"`
		case 13:
			want = `"a\rb"`
		case 31:
			want = `"a\x1fb"`
		case 32:
			want = `"a b"`
		case '"':
			want = `"a\"b"`
		case '\\':
			want = `"a\\b"`
		case 126:
			want = `"a~b"`
		case 127:
			want = `"a\x7fb"`
		case 128:
			want = `"a\x80b"`
		case 255:
			want = `"a\xffb"`
		}
		prints(t, api.Script{Init: text, Files: []api.BootFile{{Path: text, Type: api.TypeDir}}, Inputs: []api.Input{{Data: []byte(text)}}},
			"frames 0\nbudget 0\ninit "+want+"\ndir "+want+"\ninput 0 "+want+"\n")
	}
}

func TestPrintOfNoNumbers(t *testing.T) {
	for _, n := range []int{-1, -2147483648, 2147483648, 4294967296, -1 << 63, 1<<63 - 1} {
		refusesPrint(t, api.Script{Frames: n}, 0, api.ErrEngineScript)
		refusesPrint(t, api.Script{Budget: n}, 0, api.ErrEngineScript)
		refusesPrint(t, api.Script{Ticks: []int{n}}, 1, api.ErrEngineScript)
		refusesPrint(t, api.Script{Inputs: []api.Input{{At: n}}}, 1, api.ErrEngineScript)
		files := []api.BootFile{{Type: api.TypeDir}, {Type: api.TypeFile}, {Type: api.TypeDev}}
		refusesPrint(t, api.Script{Files: files, Ticks: []int{7, n, n}}, 5, api.ErrEngineScript)
		refusesPrint(t, api.Script{Files: files, Ticks: []int{7, 7}, Inputs: []api.Input{{}, {}, {At: n}}}, 8, api.ErrEngineScript)
	}
}

func TestPrintOfNoFiles(t *testing.T) {
	for _, wrong := range []api.BootFile{
		{}, {Type: 4}, {Type: -1}, {Type: 1 << 40, Path: "/x"}, {Type: api.TypeDir, Data: []byte{1}}, {Type: api.TypeDev, Data: []byte{1}}, {Type: api.TypeDir, Major: 1}, {Type: api.TypeDir, Minor: -1}, {Type: api.TypeFile, Major: -1}, {Type: api.TypeFile, Minor: 1, Data: []byte{1}}, {Type: api.TypeDev, Major: 1, Minor: 1, Data: []byte{0}},
	} {
		refusesPrint(t, api.Script{Files: []api.BootFile{wrong}}, 1, api.ErrEngineScript)
		refusesPrint(t, api.Script{Files: []api.BootFile{{Type: api.TypeDir}, {Type: api.TypeFile}, wrong, {}}, Ticks: []int{-1}}, 3, api.ErrEngineScript)
	}
	// An empty list is none.
	prints(t, api.Script{Files: []api.BootFile{{Type: api.TypeDir, Data: []byte{}}, {Type: api.TypeDev, Data: []byte{}}}, Ticks: []int{}, Inputs: []api.Input{}}, "frames 0\nbudget 0\ninit \"\"\ndir \"\"\ndev \"\" 0 0\n")
}

func TestPrintOfTooMuch(t *testing.T) {
	files := func(n int) []api.BootFile {
		var all []api.BootFile
		for range n {
			all = append(all, api.BootFile{Type: api.TypeDir})
		}
		return all
	}
	if _, err := checkPrint(t, api.Script{Files: files(64), Ticks: make([]int, 4096), Inputs: make([]api.Input, 4096)}); err != nil {
		t.Error(err)
	}
	refusesPrint(t, api.Script{Files: files(65)}, 65, api.ErrEngineScript)
	refusesPrint(t, api.Script{Files: files(70), Ticks: []int{-1}}, 65, api.ErrEngineScript)
	refusesPrint(t, api.Script{Ticks: make([]int, 4097)}, 4097, api.ErrEngineScript)
	refusesPrint(t, api.Script{Files: files(64), Ticks: make([]int, 5000), Inputs: []api.Input{{At: -1}}}, 64+4097, api.ErrEngineScript)
	refusesPrint(t, api.Script{Inputs: make([]api.Input, 4097)}, 4097, api.ErrEngineScript)
	refusesPrint(t, api.Script{Files: files(64), Ticks: make([]int, 4096), Inputs: make([]api.Input, 4100)}, 64+4096+4097, api.ErrEngineScript)
	// One that is wrong by itself is told ahead of the one too many, if it stands ahead of it.
	wrong := files(65)
	wrong[63].Type = 0
	refusesPrint(t, api.Script{Files: wrong}, 64, api.ErrEngineScript)
}

func TestPrintOfWhatIsTooLong(t *testing.T) {
	empty := len("frames 0\nbudget 0\ninit \"\"\n")
	for _, n := range []int{1048576 - empty, 1048577 - empty, 1048576, 1048577, 5000000} {
		s := api.Script{Init: strings.Repeat("x", n)}
		if n+empty > 1048576 {
			refusesPrint(t, s, 0, api.ErrEngineLong)
		} else if text, err := checkPrint(t, s); len(text) != 1048576 || err != nil {
			t.Errorf("%d bytes, %v", len(text), err)
		}
	}
	long := strings.Repeat("\xff", 300000) // four bytes each, where they are quoted
	refusesPrint(t, api.Script{Init: long}, 0, api.ErrEngineLong)
	refusesPrint(t, api.Script{Files: []api.BootFile{{Path: long, Type: api.TypeDir}}}, 0, api.ErrEngineLong)
	refusesPrint(t, api.Script{Files: []api.BootFile{fileOf("/f", long), fileOf("/g", long)}}, 0, api.ErrEngineLong)
	refusesPrint(t, api.Script{Inputs: []api.Input{{Data: []byte(long)}}}, 0, api.ErrEngineLong)
	// What no text tells is ahead of the length.
	refusesPrint(t, api.Script{Init: long, Inputs: []api.Input{{At: 1}, {At: -1}}}, 2, api.ErrEngineScript)
	refusesPrint(t, api.Script{Init: long, Frames: -1}, 0, api.ErrEngineScript)
	if text, err := checkPrint(t, api.Script{Files: []api.BootFile{fileOf("/f", long)}}); err != nil || len(text) > 1048576 {
		t.Errorf("%d bytes, %v", len(text), err)
	}
}

// However much is to be written, a refusal comes soon.
func TestPrintOfFarTooMuch(t *testing.T) {
	if testing.Short() {
		t.Skip("takes much memory")
	}
	huge := make([]byte, 1<<28)
	s := api.Script{}
	for range 64 {
		s.Files = append(s.Files, api.BootFile{Type: api.TypeFile, Data: huge})
	}
	for range 4096 {
		s.Inputs = append(s.Inputs, api.Input{Data: huge})
	}
	text, err := engine.Print(s)
	if text != "" || !reflect.DeepEqual(err, refusedAt(0, api.ErrEngineLong)) {
		t.Errorf("%d bytes, %v", len(text), err)
	}
}
