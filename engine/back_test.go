package engine_test

// P18.3: there and back.

import (
	"bytes"
	"reflect"
	"strings"
	"testing"

	"hartix/api"
	"hartix/engine"
)

// plainScript gives a script whose empty lists are nil.
func plainScript(s api.Script) api.Script {
	out := api.Script{Frames: s.Frames, Budget: s.Budget, Init: s.Init, Ticks: append([]int(nil), s.Ticks...)}
	for _, f := range s.Files {
		f.Data = append([]byte(nil), f.Data...)
		out.Files = append(out.Files, f)
	}
	for _, input := range s.Inputs {
		input.Data = append([]byte(nil), input.Data...)
		out.Inputs = append(out.Inputs, input)
	}
	return out
}

// backFromText prints a script, reads it and prints it again; false, if it is refused.
func backFromText(t *testing.T, s api.Script) bool {
	t.Helper()
	text, err := checkPrint(t, s)
	if err != nil {
		return false
	}
	back, err := checkParse(t, text)
	if err != nil || !reflect.DeepEqual(back, plainScript(s)) {
		t.Fatalf("%s comes back as %s, %v", shownScript(s), shownScript(back), err)
	}
	again, err := engine.Print(back)
	if err != nil || again != text {
		t.Fatalf("%s is written twice, and not alike: %s, %v", shown(text), shown(again), err)
	}
	return true
}

func TestThereAndBack(t *testing.T) {
	var all []byte
	for b := range 256 {
		all = append(all, byte(b))
	}
	many := api.Script{Ticks: numbersUpTo(4096), Inputs: make([]api.Input, 4096)}
	for k := range 64 {
		many.Files = append(many.Files, api.BootFile{Path: strings.Repeat("p", k), Type: 1 + k%3})
	}
	for _, s := range []api.Script{
		{}, {Frames: 2147483647, Budget: 2147483647}, {Init: string(all)}, many,
		{Files: []api.BootFile{{Path: string(all), Type: api.TypeFile, Data: all}, {Type: api.TypeFile, Data: []byte{}}, {Type: api.TypeDev, Major: -32768, Minor: -1}}},
		{Ticks: []int{2147483647, 0, 5, 5}, Inputs: []api.Input{{At: 2147483647, Data: all}, {Data: []byte{}}}},
		{Files: []api.BootFile{{Type: api.TypeFile, Data: bytes.Repeat(all, 2000)}}},
	} {
		if !backFromText(t, s) {
			t.Errorf("%s is refused", shownScript(s))
		}
	}
}

func drawnBytes(s *scatter, most int) []byte {
	var b []byte
	for range s.below(most + 1) {
		b = append(b, pick(s, byte(s.next()), byte(s.next()), 'a', '"', '\\', '\n', 0, ' ', '#', 'x', '0'))
	}
	return b
}

// drawnScript gives a script of any kind: most can be written.
func drawnScript(s *scatter) api.Script {
	script := api.Script{Frames: s.below(100), Budget: s.below(1 << 31), Init: string(drawnBytes(s, 9))}
	for range s.below(6) {
		f := api.BootFile{Path: string(drawnBytes(s, 20)), Type: 1 + s.below(3)}
		if f.Type == api.TypeFile || s.below(60) == 0 {
			f.Data = drawnBytes(s, 100)
		}
		if f.Type == api.TypeDev || s.below(60) == 0 {
			f.Major, f.Minor = int16(s.next()), int16(s.next()>>20)
		}
		if s.below(60) == 0 {
			f.Type = s.below(6)
		}
		script.Files = append(script.Files, f)
	}
	for range s.below(50) {
		script.Ticks = append(script.Ticks, pick(s, s.below(1000), s.below(1<<31), 2147483647-s.below(3)*s.below(2)))
	}
	for range s.below(6) {
		script.Inputs = append(script.Inputs, api.Input{At: s.below(1 << 31), Data: drawnBytes(s, 30)})
	}
	switch s.below(12) {
	case 0:
		script.Frames = -s.below(3)
	case 1:
		script.Ticks = append(script.Ticks, -s.below(2))
	case 2:
		script.Inputs = append(script.Inputs, api.Input{At: 1<<31 - s.below(2)})
	}
	return script
}

func TestThereAndBackDrawn(t *testing.T) {
	s := scatter(181)
	taken, all := 0, 3000
	for range all {
		if backFromText(t, drawnScript(&s)) {
			taken++
		}
	}
	if taken < all/2 || taken > all*19/20 {
		t.Errorf("%d of %d were taken", taken, all)
	}
}
