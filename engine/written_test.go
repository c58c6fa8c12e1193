package engine_test

// W10: what is written is read back as the same: instruction words, assembly text, ELF files, directory entries, and scripts that hold them.

import (
	"bytes"
	"reflect"
	"testing"

	"hartix/api"
	"hartix/asm"
	"hartix/elf"
	"hartix/engine"
	"hartix/insn"
	"hartix/tree"
)

func TestWrittenWords(t *testing.T) {
	s := scatter(191)
	known := 0
	for range 300000 {
		word := uint32(s.next())
		if s.below(2) == 0 {
			word = word&^0x7f | pick[uint32](&s, 0x37, 0x17, 0x6f, 0x67, 0x63, 0x03, 0x23, 0x13, 0x33, 0x1b, 0x3b, 0x0f, 0x73)
		}
		i, err := insn.Decode(word)
		if err != nil {
			continue
		}
		known++
		if again, err := insn.Encode(i); again != word || err != nil {
			t.Fatalf("%08x is %+v, written as %08x, %v", word, i, again, err)
		}
	}
	if known < 50000 {
		t.Errorf("%d words were known", known)
	}
}

// drawnCode gives words of all kinds.
func drawnCode(s *scatter) []byte {
	var code []byte
	for range 1 + s.below(60) {
		word := uint32(s.next())
		if s.below(4) > 0 {
			word = word&^0x7f | pick[uint32](s, 0x37, 0x17, 0x6f, 0x67, 0x63, 0x03, 0x23, 0x13, 0x33, 0x1b, 0x3b, 0x0f, 0x73)
		}
		code = append(code, byte(word), byte(word>>8), byte(word>>16), byte(word>>24))
	}
	return code
}

// Code that is told as text, written into a script, read as a program and taken out of its file again is that code.
func TestWrittenPrograms(t *testing.T) {
	s := scatter(192)
	for range 300 {
		code := drawnCode(&s)
		text := settings + "asm /a\n" + asm.Tell(code) + "end\n"
		script, err := engine.Parse(text)
		if err != nil {
			t.Fatalf("%v in:\n%s", err, text)
		}
		program, err := elf.Read(script.Files[0].Data)
		if err != nil || len(program.Segs) != 1 || !bytes.Equal(program.Segs[0].Data, code) {
			t.Fatalf("% x comes back as %+v, %v", code, program, err)
		}
		again, err := elf.Write(program)
		if err != nil || !bytes.Equal(again, script.Files[0].Data) {
			t.Fatalf("%+v is written twice, and not alike: %v", program, err)
		}
		if !backFromText(t, script) {
			t.Fatalf("refused:\n%s", text)
		}
	}
}

func TestWrittenPieces(t *testing.T) {
	s := scatter(193)
	for range 100 {
		d := drawing{s: &s}
		text := d.program()
		program := asm.Program(imageOf(t, text))
		file, err := elf.Write(program)
		if err != nil {
			t.Fatal(err)
		}
		if again, err := elf.Read(file); err != nil || !reflect.DeepEqual(again, program) {
			t.Fatalf("%+v comes back as %+v, %v", program, again, err)
		}
	}
}

func TestWrittenEntries(t *testing.T) {
	s := scatter(194)
	for range 5000 {
		var name []byte
		for range s.below(15) {
			name = append(name, 1+byte(s.below(255)))
		}
		e := api.Dirent{Ino: s.below(1 << 16), Name: string(name)}
		if again, ok := tree.Unpack(tree.Pack(e)); !ok || again != e {
			t.Fatalf("%+v comes back as %+v, %v", e, again, ok)
		}
	}
}

// Entries that a program reads out of a directory are those that the system has made.
func TestEntriesAsBytes(t *testing.T) {
	text := runs(99, "la a0, path\nli a1, 0\nli a7, 15\necall\nla a1, room\nli a2, 200\nli a7, 5\necall\nmv a2, a0\nli a0, 1\nli a7, 16\necall\nli a7, 2\necall\n.data\npath: .asciz \"/d\"\n.bss\nroom: .zero 200", "dir /d\ntext /d/f x\ndir /d/a-name-of-more-than-14\n")
	printed := []byte(printedIn(t, checkTell(t, text)))
	var got []api.Dirent
	for at := 0; at < len(printed); at += 16 {
		e, ok := tree.Unpack(printed[at:min(at+16, len(printed))])
		if !ok {
			t.Fatalf("%q", printed)
		}
		got = append(got, e)
	}
	want := []api.Dirent{{Ino: 4, Name: "."}, {Ino: 1, Name: ".."}, {Ino: 5, Name: "f"}, {Ino: 6, Name: "a-name-of-more"}}
	if !reflect.DeepEqual(got, want) {
		t.Errorf("%+v, want %+v", got, want)
	}
}
