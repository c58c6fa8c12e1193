package engine_test

// The chapter's examples.

import (
	"testing"

	"hartix/api"
)

const first = "frames 64\nbudget 1000\ninit \"/a\"\nasm /a\nli a0, 7\nli a7, 2\necall\nend\n"

func tells(t *testing.T, text, want string) {
	t.Helper()
	if got := checkTell(t, text); got != want {
		t.Errorf("Tell of %s: %q, want %q", shown(text), got, want)
	}
}

func TestExampleOfARun(t *testing.T) {
	tells(t, first, "pid 1 steps 3\nhalt exit 7 at 2\n")
}

func TestExampleOfEvery(t *testing.T) {
	reads(t, "every 5 10 3", api.Script{Ticks: []int{5, 15, 25}})
	reads(t, "tick 5 15 25", api.Script{Ticks: []int{5, 15, 25}})
	reads(t, "every 5 0 2", api.Script{Ticks: []int{5, 5}})
	tells(t, first+"every 5 0 2\n", "refused kernel 1 errno 322\n")
	asks(t, "every 2147483647 1 2", 1, api.ErrEngineWord)
}

func TestExampleOfRefusals(t *testing.T) {
	asks(t, "frames 064", 1, api.ErrEngineWord)
	asks(t, "frames 64 64", 1, api.ErrEngineLine)
	asks(t, "frames 64\nframes 64", 2, api.ErrEngineTwice)
	asks(t, settings+"bytes /x\n00 11\n", 4, api.ErrEngineEnd)
	asks(t, "", 0, api.ErrEngineEnd)
	tells(t, "", "refused engine 0 errno 365\n")
}

func TestExampleOfWords(t *testing.T) {
	reads(t, `text /f "a\x00b" # c`, api.Script{Files: []api.BootFile{{Path: "/f", Type: api.TypeFile, Data: []byte{'a', 0, 'b'}}}})
	asks(t, settings+`text /f "a"b`, 4, api.ErrEngineWord)
}
