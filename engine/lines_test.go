package engine_test

// P18.1: what each line tells, what stands there once, and how much there may be.

import (
	"fmt"
	"strings"
	"testing"

	"hartix/api"
)

func TestSettings(t *testing.T) {
	for _, order := range []string{"frames 1\nbudget 2\ninit /x", "init /x\nbudget 2\nframes 1", "dir /d\nbudget 2\ntick 1\nframes 1\ninput 3 x\ninit /x"} {
		s, err := checkParse(t, order)
		if err != nil || s.Frames != 1 || s.Budget != 2 || s.Init != "/x" {
			t.Errorf("%q: %+v, %v", order, s, err)
		}
	}
	// Numbers that no machine has are the kernel's to refuse.
	s, err := checkParse(t, "frames 0\nbudget 2147483647\ninit \"\"")
	if err != nil || s.Frames != 0 || s.Budget != 2147483647 || s.Init != "" {
		t.Errorf("%+v, %v", s, err)
	}
}

func TestMissingSettings(t *testing.T) {
	lines := []string{"frames 0", "budget 0", "init \"\""}
	for which := range 7 {
		text := "\n\n"
		for k, line := range lines {
			if which>>k&1 == 1 {
				text += line + "\n"
			}
		}
		asks(t, text, 0, api.ErrEngineEnd)
		asks(t, text+"dir /d\ntick 1\n", 0, api.ErrEngineEnd)
	}
}

func TestTwice(t *testing.T) {
	for _, line := range []string{"frames 64", "budget 100", "init /a", "frames 0", "budget 0", "init \"\""} {
		asks(t, settings+line, 4, api.ErrEngineTwice)
		asks(t, line+"\n\n"+line, 3, api.ErrEngineTwice)
	}
}

func TestFiles(t *testing.T) {
	reads(t, "dir /d\ndev /c -1 2\ntext /d/f hello\nbytes /g\n00\nend\ndir \"/e f\"\ndir /d\n", api.Script{Files: []api.BootFile{
		{Path: "/d", Type: api.TypeDir},
		{Path: "/c", Type: api.TypeDev, Major: -1, Minor: 2},
		{Path: "/d/f", Type: api.TypeFile, Data: []byte("hello")},
		{Path: "/g", Type: api.TypeFile, Data: []byte{0}},
		{Path: "/e f", Type: api.TypeDir},
		{Path: "/d", Type: api.TypeDir},
	}})
	// A path may be anything: whether it is one, is the kernel's to say.
	for _, path := range []string{"", "\x00", "a\nb", strings.Repeat("/long", 100), "..", "\xff\""} {
		word := quoted([]byte(path))
		reads(t, "dir "+word+"\ndev "+word+" 0 0\ntext "+word+" \"\"\nbytes "+word+"\nend", api.Script{Files: []api.BootFile{
			{Path: path, Type: api.TypeDir}, {Path: path, Type: api.TypeDev}, {Path: path, Type: api.TypeFile}, {Path: path, Type: api.TypeFile},
		}})
		s, err := checkParse(t, "frames 1\nbudget 1\ninit "+word)
		if err != nil || s.Init != path {
			t.Errorf("%q: %+v, %v", path, s, err)
		}
	}
}

func TestTicksAndInputs(t *testing.T) {
	reads(t, "tick 9 3\nevery 2 0 2\ninput 7 b\ntick 3\ninput 1 \"\"\nevery 0 5 0\nevery 4 1 1\ninput 7 c", api.Script{
		Ticks:  []int{9, 3, 2, 2, 3, 4},
		Inputs: []api.Input{{At: 7, Data: []byte("b")}, {At: 1}, {At: 7, Data: []byte("c")}},
	})
}

func TestEvery(t *testing.T) {
	for _, c := range []struct {
		line string
		want []int
	}{
		{"every 0 0 0", nil},
		{"every 2147483647 2147483647 0", nil},
		{"every 2147483647 2147483647 1", []int{2147483647}},
		{"every 0 2147483647 2", []int{0, 2147483647}},
		{"every 2147483647 0 3", []int{2147483647, 2147483647, 2147483647}},
		{"every 2147483645 1 3", []int{2147483645, 2147483646, 2147483647}},
		{"every 1 1073741823 3", []int{1, 1073741824, 2147483647}},
	} {
		reads(t, c.line, api.Script{Ticks: c.want})
	}
	for _, line := range []string{
		"every 2147483647 1 2", "every 1 2147483647 2", "every 0 2147483647 3", "every 2147483646 1 3", "every 2 1073741823 3", "every 0 1073741824 3",
		"every 0 1 2147483647 1", "every 2147483647 2147483647 2147483647", "every 1 1 2147483647 # 1",
	} {
		reason := api.ErrEngineWord
		switch line {
		case "every 0 1 2147483647 1":
			reason = api.ErrEngineLine
		case "every 1 1 2147483647 # 1": // the last one would be a number still
			reason = api.ErrEngineMany
		}
		asks(t, settings+line, 4, reason)
	}
}

func TestHowManyFiles(t *testing.T) {
	var text strings.Builder
	for k := range 64 {
		fmt.Fprintln(&text, []string{"dir /d", "dev /c 1 1", "text /f x", "bytes /b\n00\nend", "asm /p\nnop\nend"}[k%5])
	}
	s, err := checkParse(t, settings+text.String())
	if err != nil || len(s.Files) != 64 {
		t.Fatalf("%d files, %v", len(s.Files), err)
	}
	line := strings.Count(settings+text.String(), "\n") + 1
	for _, more := range []string{"dir /d", "dev /c 1 1", "text /f x", "bytes /b\n00\nend", "bytes /b", "bytes /b\nxx\nend", "asm /p\nnop\nend", "asm /p", "asm /p\nno such\nend"} {
		asks(t, settings+text.String()+more, line, api.ErrEngineMany)
	}
	// Ticks and inputs are not files.
	if _, err := checkParse(t, settings+text.String()+"tick 1\ninput 1 x\n"); err != nil {
		t.Error(err)
	}
}

func TestHowManyTicks(t *testing.T) {
	numbers := func(n int) string { return strings.Repeat(" 1", n) }
	for _, text := range []string{"tick" + numbers(4096), "every 0 1 4096", "every 0 1 4095\ntick 9", "tick" + numbers(4095) + "\nevery 0 0 1", "every 0 1 4096\nevery 7 7 0", "every 9 0 4096"} {
		s, err := checkParse(t, settings+text)
		if err != nil || len(s.Ticks) != 4096 {
			t.Errorf("%s: %d ticks, %v", shown(text), len(s.Ticks), err)
		}
	}
	for _, text := range []string{"tick" + numbers(4097), "every 0 1 4097", "every 9 0 4097", "every 9 0 2147483647", "every 0 524287 4097", "tick" + numbers(100000)} {
		asks(t, settings+text, 4, api.ErrEngineMany)
	}
	for _, text := range []string{"every 0 1 4095\ntick 1 2", "every 0 1 4095\nevery 0 1 2", "tick" + numbers(4096) + "\ntick 1", "every 0 1 4096\nevery 0 0 1", "every 0 1 1\nevery 0 0 2147483647"} {
		asks(t, settings+text, 5, api.ErrEngineMany)
	}
}

func TestHowManyInputs(t *testing.T) {
	text := settings + strings.Repeat("input 1 x\n", 4096)
	s, err := checkParse(t, text)
	if err != nil || len(s.Inputs) != 4096 {
		t.Errorf("%d inputs, %v", len(s.Inputs), err)
	}
	asks(t, text+"input 1 \"\"", 3+4097, api.ErrEngineMany)
	// Ticks, files and inputs are counted each by themselves.
	if _, err := checkParse(t, text+"every 0 1 4096\ndir /d"); err != nil {
		t.Error(err)
	}
}

func TestHowLong(t *testing.T) {
	for _, n := range []int{1048575, 1048576, 1048577, 3000000} {
		for _, text := range []string{strings.Repeat("#", n), strings.Repeat("\n", n), strings.Repeat("x", n), strings.Repeat(`"`, n), strings.Repeat("tick 1 ", n)[:n], settings + strings.Repeat(" ", n-len(settings)), settings + "text /f " + strings.Repeat("x", n-len(settings)-8)} {
			_, err := checkParse(t, text)
			if n > 1048576 {
				asks(t, text, 0, api.ErrEngineLong)
			} else if strings.HasPrefix(text, settings) && err != nil {
				t.Errorf("%d bytes: %v", n, err)
			}
		}
	}
}
