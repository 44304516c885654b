package shell_test

import (
	"math/rand/v2"
	"slices"
	"strings"
	"testing"

	"tableau/api"
	"tableau/shell"
)

// A talker draws lines.
type talker struct{ *rand.Rand }

func (g talker) of(list ...string) string { return list[g.IntN(len(list))] }

func (g talker) col() string { return g.of("x", "y", "z", "w", "v9", "x_") }

func (g talker) row() string { return g.of("r", "s", "t", "x", "u_1") }

func (g talker) number() string {
	return g.of("0", "1", "-1", "2", "3", "-2", "1/2", "-3/2", "7/3", "5", "-4", "12345678901234567890123/7")
}

func (g talker) lo() string { return g.of("-inf", "-inf", "0", "0", "1", "-1", "-5/2", "2", "inf") }

func (g talker) hi() string { return g.of("inf", "inf", "4", "3", "1", "2", "0", "9/2", "-inf") }

func (g talker) pass() string {
	return g.of("single", "fixed", "dominate", "pairup", "subst", "twin", "tighten")
}

// right: a line of the form that a command asks for.
func (g talker) right() []string {
	switch g.IntN(26) {
	case 0:
		return []string{"min", g.number()}
	case 1, 2, 3, 4:
		return []string{"col", g.col(), g.number(), g.lo(), g.hi()}
	case 5, 6, 7, 8:
		line := []string{"row", g.row(), g.lo(), g.hi()}
		for range g.IntN(5) {
			line = append(line, g.number(), g.col())
		}
		return line
	case 9:
		return []string{"cost", g.col(), g.number()}
	case 10:
		return []string{"bounds", g.col(), g.lo(), g.hi()}
	case 11:
		return []string{"range", g.row(), g.lo(), g.hi()}
	case 12, 13:
		return []string{"term", g.row(), g.col(), g.number()}
	case 14:
		return []string{g.of("dropcol", "droprow"), g.of(g.col(), g.row())}
	case 15, 16:
		line := []string{"script"}
		for range g.IntN(5) {
			line = append(line, g.pass())
		}
		return line
	case 17:
		return []string{"auto", g.of("0", "1", "3", "7", "12", "64", "65", "0009")}
	case 18, 19:
		return []string{"value", g.col()}
	case 20:
		return []string{g.of("clear", "sweep", "sweep", "sweep", "sweep", "sweep", "sweep")}
	}
	return []string{g.of("sweep", "solve", "solve", "solve", "report", "print")}
}

// line: now and then with words that are at fault, and with blanks.
func (g talker) line() string {
	words := g.right()
	for g.IntN(5) == 0 {
		at := g.IntN(len(words))
		switch g.IntN(5) {
		case 0:
			words = slices.Delete(words, at, at+1)
		case 1:
			words = slices.Insert(words, at, words[at])
		case 2:
			words = append(words, g.of("1", "x", "inf", "single"))
		default:
			words[at] = g.of("2/4", "X", "inf", "-inf", "1", "x", "q", "r", "fixed", "0", "-0", "\t", "solve", "é", "12345", "x1/2")
		}
		if len(words) == 0 {
			break
		}
	}
	out := ""
	for _, word := range words {
		out += word + strings.Repeat(" ", 1+max(g.IntN(8)-6, 0))
	}
	if g.IntN(9) > 0 {
		out = strings.TrimRight(out, " ")
	}
	return strings.Repeat(" ", max(g.IntN(8)-6, 0)) + out
}

// TestSessions: drawn lines, held against the plain shell, one by one and as a text.
func TestSessions(t *testing.T) {
	found, told := map[api.Errno]int{}, map[string]int{}
	for seed := range 400 {
		g := talker{rand.New(rand.NewPCG(uint64(seed), 40))}
		s, p := shell.New(), newPlain()
		var lines []string
		var want []shell.Reply
		for range 120 {
			line := g.line()
			lines, want = append(lines, line), append(want, p.line(line))
			if r := s.Line(line); r != want[len(want)-1] {
				t.Fatalf("P30: of %q the reply to the last line is %v, want %v", lines, r, want[len(want)-1])
			}
			found[want[len(want)-1].E]++
			kind, _, _ := strings.Cut(want[len(want)-1].Text, " ")
			kind, _, _ = strings.Cut(kind, "\n")
			told[kind]++
		}
		if got := shell.Run(strings.Join(lines, "\n")); !slices.Equal(got, want) && lines[len(lines)-1] != "" {
			t.Fatalf("P30.5: Run of %q: %v, want %v", lines, got, want)
		}
	}
	for _, e := range []api.Errno{api.OK, api.ErrArg, api.ErrForm, api.ErrName, api.ErrExists, api.ErrNone, api.ErrText} {
		if found[e] < 100 {
			t.Errorf("only %d replies of the error %d", found[e], e)
		}
	}
	for _, kind := range []string{"optimal", "infeasible", "unbounded", "went", "empty", "pending", "min", "single", "0", "4"} {
		if told[kind] < 100 {
			t.Errorf("only %d replies that begin with %q", told[kind], kind)
		}
	}
}

// TestBytes: each byte of lines left out, doubled, and replaced by others: it ends, and what it answers is what the plain shell does.
func TestBytes(t *testing.T) {
	for _, line := range rights() {
		for at := range len(line) {
			for _, b := range []string{"", " ", "0", "1", "/", "-", "x", "r", "X", "\x00", "\n", "\xff", "inf", " 1", " x", line[at:at+1] + line[at:at+1]} {
				for _, changed := range []string{line[:at] + b + line[at:], line[:at] + b + line[at+1:]} {
					s, p := solved(t), newPlain()
					for _, told := range append(first(), "col z 5 2 2", "script fixed tighten", "solve") {
						p.line(told)
					}
					ask(t, "P30.3", s, changed, p.line(changed))
					for _, asked := range []string{"print", "sweep", "report"} {
						ask(t, "P30.2", s, asked, p.line(asked))
					}
				}
			}
		}
	}
}
