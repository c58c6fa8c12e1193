package engine_test

// P18.1: the blocks, bytes and asm.

import (
	"reflect"
	"strings"
	"testing"

	"hartix/api"
	"hartix/asm"
	"hartix/elf"
)

func TestBytes(t *testing.T) {
	for _, c := range [][2]string{
		{"", ""}, {"00\n", "\x00"}, {"00 ff\n0A\n", "\x00\xff\n"}, {"00ff0A\n", "\x00\xff\n"}, {"# none\n\n \t\r\n61 # a\n62#b\n", "ab"}, {"aBAbab\n", "\xab\xab\xab"},
		{strings.Repeat("0123456789abcdefABCDEF", 500) + "\n", strings.Repeat("\x01\x23\x45\x67\x89\xab\xcd\xef\xab\xcd\xef", 500)},
		{strings.Repeat("61\n", 5000), strings.Repeat("a", 5000)},
	} {
		for _, end := range []string{"end", "end\n", "  end\t\r\n", "end # of it\n", "end#", "end \n\n"} {
			readsFile(t, "bytes /f\n"+c[0]+end, "/f", c[1])
		}
	}
}

func TestBytesThatAreNone(t *testing.T) {
	for _, line := range []string{"0", "000", "0g", "g0", "0x00", "00 0", "0 0", "-1", "\"00\"", "00 \"11\"", "00\"11\"", "\"00", "\"", "end end", "end 00", "00 end", "\"end\"", "End", "END", "end.", "end \"", "end\"\"", "end \"\\q\"", "\"end", ".", "\x00\x00", "é0", "00\v"} {
		asks(t, settings+"bytes /f\n11\n"+line+"\n22\nend\n", 6, api.ErrEngineWord)
		asks(t, settings+"bytes /f\n11\n\n"+line+"\n"+line+"\nend\nnone", 7, api.ErrEngineWord)
		// The missing end is ahead of what stands in the block.
		asks(t, settings+"bytes /f\n11\n"+line+"\n22\n", 4, api.ErrEngineEnd)
	}
}

func TestMissingEnds(t *testing.T) {
	for _, first := range []string{"bytes /f", "asm /f"} {
		for _, behind := range []string{"", "\n", "\n00\n", "\nends\n", "\nend.\n", "\n\"end\"\n", "\nen\nd", "\nEnd\n", "\nend end\n", "\n#end\n", "\n;end", "\nend\v\n", "\ntick 1\nno line\n\"", "\nbytes /g\nasm /h\n"} {
			asks(t, settings+first+behind, 4, api.ErrEngineEnd)
			asks(t, "\n"+first+behind, 2, api.ErrEngineEnd)
		}
	}
	// The end of an asm has nothing behind it.
	for _, end := range []string{"end#", "end # x", "end \"\""} {
		asks(t, settings+"asm /f\nnop\n"+end, 4, api.ErrEngineEnd)
	}
}

func imageOf(t *testing.T, text string) api.Image {
	t.Helper()
	i, err := asm.Assemble(text)
	if err != nil {
		t.Fatalf("%v in:\n%s", err, text)
	}
	return i
}

// program gives what a program's text is as a file.
func program(t *testing.T, text string) []byte {
	t.Helper()
	b, err := elf.Write(asm.Program(imageOf(t, text)))
	if err != nil {
		t.Fatal(err)
	}
	return b
}

func TestAsm(t *testing.T) {
	for _, text := range []string{
		"nop\n", "_start: li a0, 7\n\n# remark\nli a7, 2\necall\n", "nop\n.data\ns: .asciz \"end # \\\"\"\n.bss\n.zero 100\n", "nop\nend: j end\n", "nop\r\n\tnop\n", "nop # end\n", "j end\nend: nop\n",
		"li a0, '\"'\n", ".text\nnop\n.data\n.ascii \"\\x00\"\n",
	} {
		want := string(program(t, text))
		for _, end := range []string{"end", "end\n", " \t\rend\r \n"} {
			readsFile(t, "asm /f\n"+text+end, "/f", want)
		}
	}
	// These lines are the program's: what ends them is not looked at as words, nor is what a script's line is.
	readsFile(t, "asm /f\nframes: nop\n.data\n.ascii \"a\"# \"\n.byte '\"'\nend", "/f", string(program(t, "frames: nop\n.data\n.ascii \"a\"\n.byte 34\n")))
	// A line feed stands behind each line, so that the text's lines are counted as they stand.
	want := refusedAt(4, &api.Fault{Layer: "asm", At: 3, Err: api.ErrAsmName})
	_, err := checkParse(t, settings+"asm /f\nnop\n\nfoo\nend")
	if !reflect.DeepEqual(err, want) {
		t.Errorf("%v, want %v", err, want)
	}
}

func TestAsmThatIsRefused(t *testing.T) {
	long := strings.Repeat("# 234567\n", 1<<18/9)
	long += strings.Repeat("#", 1<<18-1-len(long)) // with its line feed just as long as may be
	for _, c := range []struct {
		text string
		want *api.Fault
	}{
		{"foo\n", &api.Fault{Layer: "asm", At: 1, Err: api.ErrAsmName}},
		{"nop\nend end\n", &api.Fault{Layer: "asm", At: 2, Err: api.ErrAsmName}},
		{"nop\nend # x\n", &api.Fault{Layer: "asm", At: 2, Err: api.ErrAsmName}},
		{"\"end\"\n", &api.Fault{Layer: "asm", At: 1, Err: api.ErrAsmForm}},
		{"j nowhere\n", &api.Fault{Layer: "asm", At: 1, Err: api.ErrAsmUnknown}},
		{".bss\n.zero 65536\n.zero 1\n", &api.Fault{Layer: "asm", At: 3, Err: api.ErrAsmLong}},
		{"#" + long + "\n", &api.Fault{Layer: "asm", At: 0, Err: api.ErrAsmLong}},
		{"", &api.Fault{Layer: "elf", At: 0, Err: api.ErrElfSegs}},
		{"# nothing\n\n", &api.Fault{Layer: "elf", At: 0, Err: api.ErrElfSegs}},
		{long + "\n", &api.Fault{Layer: "elf", At: 0, Err: api.ErrElfSegs}},
		{".data\n.word 1\n", &api.Fault{Layer: "elf", At: 0, Err: api.ErrElfEntry}},
		{".bss\n.zero 1\n", &api.Fault{Layer: "elf", At: 0, Err: api.ErrElfEntry}},
	} {
		_, err := checkParse(t, settings+"asm /f\n"+c.text+"end\nno line\n")
		if !reflect.DeepEqual(err, refusedAt(4, c.want)) {
			t.Errorf("%s: %v, want %v", shown(c.text), err, c.want)
		}
		// The missing end is ahead of what stands in the block.
		asks(t, settings+"asm /f\n"+c.text, 4, api.ErrEngineEnd)
	}
}

func TestLinesBehindBlocks(t *testing.T) {
	reads(t, "bytes /f\n61\nend\ntick 5\nasm /g\nnop\nend\ninput 3 x\nbytes /h\nend\ndir /d", api.Script{
		Files:  []api.BootFile{fileOf("/f", "a"), fileOf("/g", string(program(t, "nop\n"))), fileOf("/h", ""), {Path: "/d", Type: api.TypeDir}},
		Ticks:  []int{5},
		Inputs: []api.Input{{At: 3, Data: []byte("x")}},
	})
	asks(t, settings+"bytes /f\n61\nend\nend\n", 7, api.ErrEngineLine)
	asks(t, settings+"asm /f\nnop\nend\nend\n", 7, api.ErrEngineLine)
	asks(t, settings+"asm /f\nnop\nend\n61\n", 7, api.ErrEngineLine)
	// What looks like a setting inside of a block is none.
	asks(t, "frames 64\nbudget 1\nasm /f\ninit: nop\nend\n", 0, api.ErrEngineEnd)
	asks(t, "bytes /f\nframes 64\nend\n", 2, api.ErrEngineWord)
}
