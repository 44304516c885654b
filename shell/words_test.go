package shell_test

import (
	"strings"
	"testing"

	"tableau/api"
	"tableau/shell"
)

// TestBlanks: one or more of them in front of, between and behind the words; no other byte is one.
func TestBlanks(t *testing.T) {
	for _, line := range []string{"col x -1 0 4", " col x -1 0 4", "col x -1 0 4 ", "   col  x   -1     0 4    ", "col x -1 0 4" + strings.Repeat(" ", 3000)} {
		s := shell.New()
		ask(t, "P30.1", s, line, ok("1"))
		ask(t, "P30.1", s, "print", ok("min 0\ncol x -1 0 4\nend\n"))
	}
	for _, line := range []string{"", " ", "  ", strings.Repeat(" ", api.MaxLine)} {
		s := solved(t)
		before := state(s)
		ask(t, "P30.1", s, line, ok(""))
		if state(s) != before {
			t.Errorf("P30.1: %d blanks change %q to %q", len(line), before, state(s))
		}
	}
	for _, b := range []string{"\t", "\n", "\r", "\v", "\f", "\x00", "\u00a0", "\u2003", "\xff", "\x1f", "!", ",", ";", "_"} {
		s := solved(t)
		keeps(t, "P30.1", s, b, no(api.ErrName, 0))
		keeps(t, "P30.1", s, "  "+b, no(api.ErrName, 2))
		keeps(t, "P30.1", s, "solve"+b, no(api.ErrName, 0))
		keeps(t, "P30.1", s, b+"solve", no(api.ErrName, 0))
		keeps(t, "P30.1", s, "solve "+b, no(api.ErrText, 6))
		keeps(t, "P30.1", s, "min"+b+"3", no(api.ErrName, 0))
		keeps(t, "P30.1", s, "min 3"+b, no(api.ErrText, 4))
		keeps(t, "P30.1", s, "min "+b+"3", no(api.ErrText, 4))
		keeps(t, "P30.1", s, "bounds x 0"+b+"4", no(api.ErrText, 9))
		keeps(t, "P30.1", s, "script single"+b+"fixed", no(api.ErrText, 7))
	}
}

// places: lines in which @ stands for a word of one kind, with the place of that word, and whether the rest of the line is right.
func places(kind string) []string {
	return map[string][]string{
		"number": {"min @", "col w @ 0 4", "row s 0 1 @ x", "row s 0 1 1 x @ y", "cost x @", "term r x @"},
		"bound":  {"col w 1 @ inf", "col w 1 -inf @", "row s @ inf", "row s -inf @ 1 x", "bounds x @ inf", "bounds x -inf @", "range r @ inf", "range r -inf @"},
		"name":   {"col @ 1 0 4", "row @ 0 1", "row @ 0 1 1 x"},
		"column": {"row s 0 1 1 @", "row s 0 1 1 z 2 @", "cost @ 1", "bounds @ 0 1", "term r @ 1", "dropcol @", "value @"},
		"row":    {"range @ 0 1", "term @ x 1", "droprow @"},
		"pass":   {"script @", "script single @ fixed", "script single fixed @"},
		"count":  {"auto @"},
	}[kind]
}

// kinds: words that are of each kind, and such that are just none.
func kinds() []struct {
	kind      string
	are, none string
} {
	long := "abcdefghijklmnop"
	return []struct {
		kind      string
		are, none string
	}{
		{"number", "0 1 -1 3/2 -3/2 7 -10 100000000000000000000 -1/100000000000000000000 " + strings.Repeat("9", 500), "-0 00 01 +1 1. 1.5 .5 1e3 0x1 2/4 4/2 1/1 0/1 1/0 -1/-2 1/ /2 - -- 1/2/3 1/02 inf -inf x 1_0 ٣ 1, 1;"},
		{"bound", "0 1 -1 3/2 -3/2 100000000000000000000", "+inf Inf INF -Inf infinity in inff inf/2 --inf -0 00 2/4 1/0 +1 x 1.5 -"},
		{"name", "a w z0 a_ abc___9 " + long, "A 1a _a 0 -a a-b a. aB é aé a\x00 a\xff a\t " + long + "q " + strings.Repeat("a", 200)},
		{"column", "x y", "X 1x _x x-y x. é x\x00 " + long + "q " + strings.Repeat("x", 300)},
		{"row", "r", "R 1r _r r-r r. é r\x00 " + long + "q"},
		{"pass", "single fixed dominate pairup subst twin tighten", "Single singl singles SINGLE fix dominated pair-up pairs sub twins tight tighten, 1 7 0 none row x"},
		{"count", "0 1 7 64 0000 0007 07 00", "-1 +1 00000 00064 12345 10000 1a a 1.0 1/1 ١ x - 64. 0x1 inf 99999999999999999999"},
	}
}

// TestKinds: each kind of word, wherever it may stand: what is of the kind is taken, and what is just none is told at its place.
func TestKinds(t *testing.T) {
	for _, k := range kinds() {
		if len(places(k.kind)) == 0 {
			t.Fatalf("no places of a %s", k.kind)
		}
		for _, line := range places(k.kind) {
			at := strings.Index(line, "@")
			for _, word := range strings.Fields(k.are) {
				s := solved(t)
				if r := s.Line(strings.Replace(line, "@", word, 1)); r.E == api.ErrText || r.E == api.ErrName {
					t.Errorf("P30.1: %q for the %s of %q: %v", word, k.kind, line, r)
				}
			}
			s := solved(t)
			for _, word := range strings.Split(k.none, " ") {
				keeps(t, "P30.1", s, strings.Replace(line, "@", word, 1), no(api.ErrText, at))
				keeps(t, "P30.1", s, "  "+strings.Replace(line, "@", " "+word, 1)+" ", no(api.ErrText, at+3))
			}
		}
	}
}

// TestNotThere: names that are names, but of nothing there; a column's name stands for no row, and the other way round.
func TestNotThere(t *testing.T) {
	s := solved(t)
	for kind, words := range map[string]string{"column": "w r xx x0 abcdefghijklmnop min col", "row": "x y s rr r_ row solve"} {
		for _, line := range places(kind) {
			for _, word := range strings.Fields(words) {
				keeps(t, "P30.3", s, strings.Replace(line, "@", word, 1), no(api.ErrName, strings.Index(line, "@")))
			}
		}
	}
}

// TestCounts: all digits count, noughts in front too.
func TestCounts(t *testing.T) {
	for word, want := range map[string]shell.Reply{
		"0": ok(""), "0000": ok(""), "1": ok("single"), "0001": ok("single"), "03": ok("single fixed dominate"), "64": ok("single fixed dominate pairup subst twin tighten"),
		"65": no(api.ErrArg, 0), "100": no(api.ErrArg, 0), "9999": no(api.ErrArg, 0), "0065": no(api.ErrArg, 0), "0064": ok("single fixed dominate pairup subst twin tighten"),
	} {
		ask(t, "P30.1", begun(t, "min 1"), "auto "+word, want)
	}
}
