package shell_test

import (
	"slices"
	"strings"
	"testing"

	"tableau/api"
	"tableau/shell"
)

// TestExample: the chapter's lines, in their order.
func TestExample(t *testing.T) {
	talk(t, "P30", shell.New(), []said{
		{"min 3", ok("")}, {"col x -1 0 4", ok("1")}, {"col y -1 0 4", ok("2")}, {"row r -inf 6 2 y 1 x", ok("1")}, {"solve", ok("optimal -2")}, {"value x", ok("4")},
		{"row r -inf 6", no(api.ErrExists, 0)}, {"row s 0 1 1 z", no(api.ErrName, 12)}, {"row s 0 1 1 x 2 x", no(api.ErrExists, 16)}, {"col z 1 0", no(api.ErrText, 9)},
		{"script tighten single", ok("2")}, {"sweep", ok("went 2 1")}, {"term r x 0", ok("")}, {"value x", no(api.ErrNone, 0)}, {"what", no(api.ErrName, 0)},
	})
}

// TestNil: a nil shell answers nothing to any line.
func TestNil(t *testing.T) {
	var s *shell.Shell
	for _, line := range []string{"", "min 3", "what", "print", "solve", "value x", "col z 1 0", "clear", strings.Repeat("x", api.MaxLine+1)} {
		ask(t, "P30.4", s, line, shell.Reply{})
	}
}

// TestZero: a shell that New did not make is like a new one, whatever it is told first.
func TestZero(t *testing.T) {
	lines := append(first(), "print", "sweep", "auto 7", "solve", "report", "value y", "script single", "clear", "print", "what", "value x", "report", "row q 0 1", strings.Repeat(" ", api.MaxLine+1), "", "script dominate", "dropcol x")
	for from := range lines {
		var zero shell.Shell
		made, other := shell.New(), &shell.Shell{}
		for _, line := range slices.Concat(lines[from:], lines) {
			want := made.Line(line)
			ask(t, "P30.4", &zero, line, want)
			ask(t, "P30.4", other, line, want)
		}
	}
}

// TestApart: what one shell is told is nothing to another one, nor to a copy of it.
func TestApart(t *testing.T) {
	one, other := solved(t), shell.New()
	before := state(one)
	ask(t, "P2", other, "print", ok("min 0\nend\n"))
	ask(t, "P2", other, "value x", no(api.ErrName, 6))
	for _, line := range []string{"min 9", "cost x 7", "bounds y 1 2", "term r x 8", "range r 0 1", "dropcol z", "droprow r", "col w 1 0 1", "script single", "solve", "auto 7", "clear"} {
		copied := *one
		if r := copied.Line(line); r.E != api.OK {
			t.Errorf("%q: %v", line, r)
		}
		if after := state(one); after != before {
			t.Errorf("P2: a copy was told %q, which changes %q to %q", line, before, after)
		}
	}
}

// TestRun: the pieces between the bytes 0a, the last one only if it is not empty.
func TestRun(t *testing.T) {
	none, fault := ok(""), no(api.ErrName, 0)
	for _, k := range []struct {
		text string
		want []shell.Reply
	}{
		{"", nil},
		{"\n", []shell.Reply{none}},
		{"\n\n\n", []shell.Reply{none, none, none}},
		{" ", []shell.Reply{none}},
		{" \n", []shell.Reply{none}},
		{"what", []shell.Reply{fault}},
		{"what\n", []shell.Reply{fault}},
		{"what\n\n", []shell.Reply{fault, none}},
		{"\nwhat", []shell.Reply{none, fault}},
		{"min 1\nsolve", []shell.Reply{none, ok("optimal 1")}},
		{"min 1\nsolve\n", []shell.Reply{none, ok("optimal 1")}},
		{"min 1\nsolve\n\nwhat", []shell.Reply{none, ok("optimal 1"), none, fault}},
		{"min 1\r\nsolve\r\n", []shell.Reply{no(api.ErrText, 4), fault}},
		{"\n\nmin 1\n  \n\nsolve\n\n", []shell.Reply{none, none, none, none, none, ok("optimal 1"), none}},
		{"min 1\nmin x\ncol\ncol x 1 1 2\nsolve\nvalue y\nvalue x\nprint\n", []shell.Reply{none, no(api.ErrText, 4), no(api.ErrText, 3), ok("1"), ok("optimal 2"), no(api.ErrName, 6), ok("1"), ok("min 1\ncol x 1 1 2\nend\n")}},
		{strings.Repeat("x", api.MaxLine+1) + "\nsolve", []shell.Reply{no(api.ErrLong, 0), ok("optimal 0")}},
	} {
		for range 2 {
			if got := shell.Run(k.text); !slices.Equal(got, k.want) {
				t.Errorf("P30.5: Run(%.80q) = %v, want %v", k.text, got, k.want)
			}
		}
	}
}

// TestRunNew: each run has a shell of its own, and its replies are new memory.
func TestRunNew(t *testing.T) {
	text := strings.Join(append(first(), "solve", "report"), "\n")
	want := shell.Run(text)
	for i, r := range want {
		other := shell.Run(text)
		clear(other)
		other = append(other, shell.Reply{Text: "scrawl"})
		if again := shell.Run(text); again[i] != r || len(again) != len(want) || other[i] == r && r != (shell.Reply{}) {
			t.Errorf("P2: the reply %d is %v, then %v", i, r, again[i])
		}
	}
}

// TestLongRun: a text of very many lines, which is longer than a model's may be.
func TestLongRun(t *testing.T) {
	lines := slices.Repeat([]string{"min 7", "", "col x 1 0 1", "what", "clear"}, 60000)
	text := strings.Join(lines, "\n")
	got := shell.Run(text)
	if len(text) <= api.MaxText || len(got) != len(lines) {
		t.Fatalf("P30.5: %d replies to %d lines", len(got), len(lines))
	}
	want := []shell.Reply{ok(""), ok(""), ok("1"), no(api.ErrName, 0), ok("")}
	for i, r := range got {
		if r != want[i%5] {
			t.Fatalf("P30.5: the reply %d is %v", i, r)
		}
	}
}
