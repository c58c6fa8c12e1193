package engine_test

// P18.5: what follows.

import (
	"fmt"
	"regexp"
	"strconv"
	"strings"
	"testing"

	"hartix/engine"
)

// Texts that are read alike are told alike.
func TestAlikeTexts(t *testing.T) {
	body := "li a0, 1\nla a1, s\nli a2, 3\nli a7, 16\necall\nl: j l\n.data\ns: .ascii \"hi\\n\""
	file := program(t, body)
	plain := fmt.Sprintf("frames 64\nbudget 50\ninit \"/a\"\nbytes \"/a\"\n%x\nend\ntick 5 15 25\ninput 7 \"x\\n\"\n", file)
	want := checkTell(t, plain)
	var words strings.Builder
	for _, b := range file {
		fmt.Fprintf(&words, "%02X # a byte\n\n", b)
	}
	for _, text := range []string{
		"frames 64\nbudget 50\ninit /a\nasm /a\n" + body + "\nend\nevery 5 10 3\ninput 7 \"\\x78\\x0A\"",
		"input 7 \"x\\n\"\r\ntick 5\t15#\ntick 25\nasm /a\n\t" + body + "\n end \ninit\"/a\"\nbudget 50\nframes 64",
		"# a remark\n\nevery 5 10 2\nevery 25 0 1\nbytes \"/a\"\n" + words.String() + "end # of it\nbudget 50\nframes 64\ninit /a\ninput 7 \"x\\n\"",
		"every 9 9 0\n" + plain,
	} {
		if got := checkTell(t, text); got != want {
			t.Errorf("%s: %q, want %q", shown(text), got, want)
		}
	}
	if want != "out \"hi\\n\"\nout \"x\\n\"\npid 1 steps 50\nhalt budget at 50\n" {
		t.Errorf("%q", want)
	}
}

var budgetLine = regexp.MustCompile(`(?m)^budget [0-9]+$`)

func withBudget(text string, budget int) string {
	return budgetLine.ReplaceAllString(text, "budget "+strconv.Itoa(budget))
}

// printedIn gives the bytes of a report's lines out.
func printedIn(t *testing.T, report string) string {
	t.Helper()
	joined := ""
	for _, line := range outs(report) {
		word, ok := wantWords(strings.TrimPrefix(line, "out "))
		if !ok || len(word) != 1 {
			t.Fatalf("%q", line)
		}
		joined += word[0].text
	}
	return joined
}

// TestOtherBudgets plays drawn scripts with other budgets.
func TestOtherBudgets(t *testing.T) {
	s := scatter(185)
	for range 40 {
		text := drawnRun(&s)
		whole := printedIn(t, engine.Tell(withBudget(text, 600)))
		for range 8 {
			some := printedIn(t, engine.Tell(withBudget(text, s.below(600))))
			if !strings.HasPrefix(whole, some) {
				t.Fatalf("%q is no beginning of %q: %s", some, whole, text)
			}
		}
	}
}

// TestTellOfPrint plays what Print writes of what was read.
func TestTellOfPrint(t *testing.T) {
	s := scatter(186)
	for range 60 {
		text := drawnRun(&s)
		script, err := engine.Parse(text)
		if err != nil {
			t.Fatalf("%v in:\n%s", err, text)
		}
		printed, err := engine.Print(script)
		if err != nil {
			t.Fatal(err)
		}
		if got, want := engine.Tell(printed), checkTell(t, text); got != want {
			t.Fatalf("%q, want %q, of:\n%s", got, want, text)
		}
	}
}
