package shell_test

import (
	"strings"
	"testing"

	"tableau/api"
	"tableau/shell"
)

// first: the document's example 4, line by line.
func first() []string {
	return []string{"min 3", "col x -1 0 4", "col y -1 0 4", "row r -inf 6 1 x 2 y"}
}

// A said is a line, and the reply that it must have.
type said struct {
	line string
	want shell.Reply
}

// ok: a reply without an error.
func ok(text string) shell.Reply { return shell.Reply{Text: text} }

// no: an error at a place.
func no(e api.Errno, at int) shell.Reply { return shell.Reply{At: at, E: e} }

// begun: a shell that was told these lines; none of them has a fault.
func begun(t *testing.T, lines ...string) *shell.Shell {
	t.Helper()
	s := shell.New()
	for _, line := range lines {
		if r := s.Line(line); r.E != api.OK {
			t.Fatalf("%q has the fault %v", line, r)
		}
	}
	return s
}

// ask: the reply to the line is as wanted.
func ask(t *testing.T, promise string, s *shell.Shell, line string, want shell.Reply) {
	t.Helper()
	if r := s.Line(line); r != want {
		t.Errorf("%s: %.200q: %v, want %v", promise, line, r, want)
	}
}

// talk: the lines of one shell.
func talk(t *testing.T, promise string, s *shell.Shell, list []said) {
	t.Helper()
	for _, k := range list {
		ask(t, promise, s, k.line, k.want)
	}
}

// state: what a shell tells of its model, of its script, and of the answer that it keeps, by lines that change none of them.
func state(s *shell.Shell) string {
	var out strings.Builder
	for _, line := range []string{"print", "sweep", "report"} {
		r := s.Line(line)
		out.WriteString(line + ": " + r.Text + "; " + string(rune('0'+r.E)) + "\n")
	}
	return out.String()
}

// keeps: the line has that error, and changes nothing.
func keeps(t *testing.T, promise string, s *shell.Shell, line string, want shell.Reply) {
	t.Helper()
	before := state(s)
	ask(t, promise, s, line, want)
	if after := state(s); after != before {
		t.Errorf("P30.3: %.200q with the error %d changes %q to %q", line, want.E, before, after)
	}
}

// solved: example 4 with an answer that is kept, and a script that shows.
func solved(t *testing.T) *shell.Shell {
	t.Helper()
	return begun(t, append(first(), "col z 5 2 2", "script fixed tighten", "solve")...)
}
