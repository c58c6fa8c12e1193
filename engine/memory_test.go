package engine_test

// DOC.md's Memory: what is handed in is neither changed nor kept; what is handed out is new.

import (
	"bytes"
	"reflect"
	"slices"
	"testing"

	"hartix/api"
	"hartix/engine"
)

const roomy = settings + "text /a hello\ntext /b hello\ntext /e \"\"\nbytes /c\n00 11\n22\nend\nasm /d\nnop\nend\ntick 1 2 3\nevery 9 9 9\ninput 1 x\ninput 2 y\ninput 3 \"\"\n"

// listsOf gives all lists of bytes of a script.
func listsOf(s api.Script) [][]byte {
	var all [][]byte
	for _, f := range s.Files {
		all = append(all, f.Data)
	}
	for _, input := range s.Inputs {
		all = append(all, input.Data)
	}
	return all
}

// spoil turns everything that can be reached from a script, spare room included.
func spoil(s api.Script) {
	for _, list := range listsOf(s) {
		list = list[:cap(list)]
		for k := range list {
			list[k] ^= 0x5a
		}
	}
	ticks := s.Ticks[:cap(s.Ticks)]
	for k := range ticks {
		ticks[k] = -7
	}
	files := s.Files[:cap(s.Files)]
	for k := range files {
		files[k] = api.BootFile{Path: "spoilt"}
	}
	inputs := s.Inputs[:cap(s.Inputs)]
	for k := range inputs {
		inputs[k] = api.Input{At: -7}
	}
}

func TestParseGivesNewMemory(t *testing.T) {
	one, err := engine.Parse(roomy)
	if err != nil {
		t.Fatal(err)
	}
	two, _ := engine.Parse(roomy)
	spoil(one)
	three, _ := engine.Parse(roomy)
	want, _ := wantParse(roomy)
	if !reflect.DeepEqual(two, want) || !reflect.DeepEqual(three, want) {
		t.Errorf("%+v, %+v, want %+v", two, three, want)
	}
}

// Each list by itself: turned, spare room included, it turns no other one.
func TestListsShareNothing(t *testing.T) {
	want, _ := wantParse(roomy)
	for k := range listsOf(want) {
		s, err := engine.Parse(roomy)
		if err != nil {
			t.Fatal(err)
		}
		list := listsOf(s)[k]
		list = list[:cap(list)]
		for i := range list {
			list[i] ^= 0x5a
		}
		for i, other := range listsOf(s) {
			if i != k && !bytes.Equal(other, listsOf(want)[i]) {
				t.Errorf("list %d is turned by list %d", i, k)
			}
		}
	}
}

func TestEmptyListsAreNil(t *testing.T) {
	s, err := engine.Parse(settings)
	if err != nil || s.Files != nil || s.Ticks != nil || s.Inputs != nil {
		t.Errorf("%#v, %v", s, err)
	}
	s, err = engine.Parse(settings + "text /a \"\"\nbytes /b\n# nothing\nend\ninput 0 \"\"\nevery 1 1 0\n")
	if err != nil || s.Files[0].Data != nil || s.Files[1].Data != nil || s.Inputs[0].Data != nil || s.Ticks != nil {
		t.Errorf("%#v, %v", s, err)
	}
	for _, text := range []string{"", "frames", settings + "bytes /f", roomy + "asm /f\nx\nend", roomy + "\""} {
		if s, err := engine.Parse(text); err == nil || !reflect.DeepEqual(s, api.Script{}) {
			t.Errorf("%q: %#v, %v", text, s, err)
		}
	}
}

func TestPrintChangesNothing(t *testing.T) {
	s, _ := engine.Parse(roomy)
	spare := []byte("0123456789")
	s.Files[0].Data = spare[2:4]
	s.Inputs[0].Data = spare[5:6]
	s.Ticks = slices.Grow(s.Ticks, 9)
	before := plainScript(s)
	text, err := engine.Print(s)
	if err != nil || !reflect.DeepEqual(plainScript(s), before) || string(spare) != "0123456789" {
		t.Errorf("%v, %v, %q", s, err, spare)
	}
	spoil(s)
	if again, err := engine.Print(before); err != nil || again != text {
		t.Errorf("%q, %v, want %q", again, err, text)
	}
}

// Each refusal is a fault of its own.
func TestFaultsAreNew(t *testing.T) {
	for _, ask := range []func() error{
		func() error { _, err := engine.Parse("none"); return err },
		func() error { _, err := engine.Parse(""); return err },
		func() error { _, err := engine.Parse("asm /f\nx\nend"); return err },
		func() error { _, err := engine.Print(api.Script{Frames: -1}); return err },
	} {
		a, _ := ask().(*api.Fault)
		b, _ := ask().(*api.Fault)
		if a == nil || b == nil || a == b {
			t.Fatalf("%v, %v", a, b)
		}
		a.Layer, a.At = "spoilt", -7
		if inner, ok := a.Err.(*api.Fault); ok {
			inner.Layer = "spoilt"
		}
		if c := ask(); !reflect.DeepEqual(c, error(b)) || c.Error() != b.Error() {
			t.Errorf("%v, want %v", c, b)
		}
	}
}
