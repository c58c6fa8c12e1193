package engine_test

// The text: lines, words, numbers and shorts.

import (
	"fmt"
	"strings"
	"testing"

	"hartix/api"
)

func fileOf(path, data string) api.BootFile {
	return api.BootFile{Path: path, Type: api.TypeFile, Data: bytesOrNil(data)}
}

// readsFile asks for a text that has one file.
func readsFile(t *testing.T, text, path, data string) {
	t.Helper()
	reads(t, text, api.Script{Files: []api.BootFile{fileOf(path, data)}})
}

func TestLines(t *testing.T) {
	want := api.Script{Files: []api.BootFile{{Path: "/d", Type: api.TypeDir}}}
	for _, text := range []string{
		"dir /d", "dir /d\n", "\n\ndir /d\n\n", "dir /d\n \t\r", "dir /d\r\n", "\t dir\t\r /d  \n", "# a remark\ndir /d # another\n#", "dir /d# none\n", "dir /d#\n", "dir \"/d\"# x", "dir\"/d\"",
	} {
		reads(t, text, want)
	}
	for _, text := range []string{"\n\n\ndir", "#\n#\n\t\ndir", "\r\n\n \ndir /d /e\n"} {
		asks(t, text, 4, api.ErrEngineLine)
	}
}

func TestPlainWords(t *testing.T) {
	for _, word := range []string{"/f", "f", "a\\n", "\\", "'", "\x00", "\x01\v\f\x7f", "\x80\xff", "é", "end", "text", "a=b,c;d", "--", strings.Repeat("x", 5000)} {
		readsFile(t, "text "+word+" "+word, word, word)
		readsFile(t, "text\t"+word+"\r"+word+"#"+word, word, word)
		readsFile(t, "text "+word+`"`+"b"+`"`, word, "b")
	}
	// Each byte that is none of a plain word's ends it.
	for b := range 256 {
		text := "text /f a" + string([]byte{byte(b)}) + "b"
		switch b {
		case '\n':
			asks(t, settings+text, 5, api.ErrEngineLine)
		case '\t', '\r', ' ':
			asks(t, settings+text, 4, api.ErrEngineLine)
		case '"':
			asks(t, settings+text, 4, api.ErrEngineWord)
		case '#':
			readsFile(t, text, "/f", "a")
		default:
			readsFile(t, text, "/f", "a"+string([]byte{byte(b)})+"b")
		}
	}
}

func TestQuotedWords(t *testing.T) {
	for _, c := range [][2]string{
		{`""`, ""}, {`"a"`, "a"}, {`" a  b "`, " a  b "}, {`"a#b"`, "a#b"}, {`"\n\t\r\0\"\\"`, "\n\t\r\x00\"\\"},
		{`"\x41\x00\xfF\xAb\x7F"`, "A\x00\xff\xab\x7f"}, {`"\\n"`, `\n`}, {`"\\\""`, `\"`}, {`"\x4142"`, "A42"}, {"\"\t\r\"", "\t\r"}, {`"end"`, "end"}, {`"'"`, "'"},
		{`"\"#"`, `"#`},
	} {
		for _, behind := range []string{"", " ", "\t#", "\r", `#"`, "# x"} {
			readsFile(t, "text /f "+c[0]+behind, "/f", c[1])
			readsFile(t, "text /f"+c[0]+behind, "/f", c[1])
		}
		readsFile(t, "text "+c[0]+" x", c[1], "x")
	}
	for _, word := range []string{
		`"`, `"a`, `"a\"`, `"\`, `"\\\"`, `"\a"`, `"\N"`, `"\1"`, `"\'"`, `"\ "`, `"\x"`, `"\x4"`, `"\x4g"`, `"\xg4"`, `"\x 4"`, `"\X41"`, `"\x4`, `"\x41`, `"a"b`, `"a""b"`, `"a"\`, "\"a\"\v", "\"a\"\x00", "\"\\\xff\"", `"a" "`, `"a" b "`, `b"c`, `b"c"d`,
	} {
		asks(t, settings+"text /f "+word, 4, api.ErrEngineWord)
		asks(t, settings+"none of these "+word, 4, api.ErrEngineWord)
		asks(t, settings+word, 4, api.ErrEngineWord)
	}
	// A line feed is no byte of a quoted word.
	asks(t, settings+"text /f \"a\nb\"", 4, api.ErrEngineWord)
	// Behind a # nothing is a word.
	readsFile(t, `text /f a# "`, "/f", "a")
	readsFile(t, "text /f a\n# \"\\", "/f", "a")
}

// Every byte, as it is and by its digits.
func TestQuotedBytes(t *testing.T) {
	for b := range 256 {
		raw := string([]byte{byte(b)})
		for _, digits := range []string{fmt.Sprintf("%02x", b), fmt.Sprintf("%02X", b)} {
			readsFile(t, `text /f "a\x`+digits+`b"`, "/f", "a"+raw+"b")
		}
		if !strings.Contains("\n\"\\", raw) {
			readsFile(t, `text /f "a`+raw+`b"`, "/f", "a"+raw+"b")
		}
		if !strings.Contains(`ntr0"\x`, raw) && b != '\n' {
			asks(t, settings+`text /f "a\`+raw+`b"`, 4, api.ErrEngineWord)
		}
	}
}

func TestNumbers(t *testing.T) {
	for text, want := range map[string]int{"0": 0, "1": 1, "9": 9, "10": 10, "64": 64, "65536": 65536, "2147483646": 2147483646, "2147483647": 2147483647} {
		reads(t, "tick "+text, api.Script{Ticks: []int{want}})
		reads(t, "input "+text+"\"\"", api.Script{Inputs: []api.Input{{At: want}}})
		s, err := checkParse(t, "frames "+text+"\nbudget "+text+"\ninit x")
		if err != nil || s.Frames != want || s.Budget != want {
			t.Errorf("%s: %+v, %v", text, s, err)
		}
	}
	for _, text := range []string{
		"00", "01", "064", "-1", "-0", "+1", "1.", "1e3", "0x10", "1_0", "a", "1a", "-", "2147483648", "4294967296", "9223372036854775807", "9223372036854775808", "18446744073709551616", "18446744073709551617", strings.Repeat("9", 4000), strings.Repeat("0", 4000), "1\x00", "\u0661", `"1"`, `"0"`, `""`, "1\v",
	} {
		for _, line := range []string{"frames ?", "budget ?", "tick ?", "tick 1 ?", "tick ? 1", "every ? 1 1", "every 1 ? 1", "every 1 1 ?", "input ? x"} {
			asks(t, strings.Replace(line, "?", text, 1), 1, api.ErrEngineWord)
		}
	}
}

func TestShorts(t *testing.T) {
	for text, want := range map[string]int16{"0": 0, "1": 1, "32767": 32767, "-1": -1, "-32768": -32768, "-10": -10} {
		reads(t, "dev /c "+text+" 7", api.Script{Files: []api.BootFile{{Path: "/c", Type: api.TypeDev, Major: want, Minor: 7}}})
		reads(t, "dev /c 7 "+text, api.Script{Files: []api.BootFile{{Path: "/c", Type: api.TypeDev, Major: 7, Minor: want}}})
	}
	for _, text := range []string{"-0", "-00", "-01", "01", "00", "+1", "--1", "-", "32768", "-32769", "65535", "-65536", "4294967295", "2147483648", "-18446744073709551615", "18446744073709551616", "x", "0x1", "1-", `"1"`, `"-1"`} {
		asks(t, settings+"dev /c "+text+" 0", 4, api.ErrEngineWord)
		asks(t, settings+"dev /c 0 "+text, 4, api.ErrEngineWord)
	}
}

func TestFirstWords(t *testing.T) {
	for _, line := range []string{"end", "Frames 64", "FRAMES 64", "frame 64", "framess 64", "file /f", "ticks 1", "x", "\\", "/a", "0", "inits /a", "\"frames\" 64", "\"\"", "\"end\"", "\"x\" y", "frames64"} {
		asks(t, line, 1, api.ErrEngineLine)
	}
}

func TestHowManyWords(t *testing.T) {
	// The least number of words that may stand behind the first, and how many more may.
	for first, c := range map[string]struct {
		words string
		many  bool
	}{
		"frames": {"1", false}, "budget": {"1", false}, "init": {"/a", false}, "dir": {"/d", false}, "dev": {"/c 1 2", false}, "text": {"/f x", false},
		"bytes": {"/f", false}, "asm": {"/f", false}, "tick": {"1", true}, "every": {"1 2 3", false}, "input": {"1 x", false},
	} {
		words := strings.Fields(c.words)
		for n := range words {
			asks(t, strings.Join(append([]string{first}, words[:n]...), " "), 1, api.ErrEngineLine)
		}
		if c.many {
			reads(t, first+" "+c.words+" 2 3", api.Script{Ticks: []int{1, 2, 3}})
			continue
		}
		asks(t, first+" "+c.words+" 1", 1, api.ErrEngineLine)
		asks(t, first+" "+c.words+"\"\"", 1, api.ErrEngineLine)
		// The number of words counts ahead of what they are.
		asks(t, first+strings.Repeat(" x", len(words)+1), 1, api.ErrEngineLine)
	}
}
