package simplex_test

import (
	"math"
	"slices"
	"testing"

	"tableau/api"
	"tableau/basis"
	"tableau/sample"
	"tableau/simplex"
)

// checkHint: From answers the status and the value of Solve, and what shows it.
func checkHint(t *testing.T, name string, m api.Model, b api.Basis, solved api.Answer) {
	t.Helper()
	a, e := simplex.From(m, b)
	want := wanted{status: solved.Status}
	if solved.Status == api.Optimal {
		want.value = toBig(solved.Value).RatString()
	}
	checkAnswer(t, "From with "+name, m, a, e, want)
}

// wrongHints: of lengths that m's bases haven't, and with statuses that are none.
func wrongHints(m api.Model) []api.Basis {
	s, n, k := slackOf(m), len(m.Cols), len(m.Rows)
	out := []api.Basis{{}, {Cols: s.Cols}, {Rows: s.Rows}, {Cols: s.Rows, Rows: s.Cols}, {Cols: filled(200, api.Lower), Rows: filled(200, api.Basic)}, {Cols: []api.Status{}, Rows: []api.Status{}}}
	for _, x := range []api.Status{api.Basic, api.Lower, api.Upper, api.Free, -1, 4, math.MaxInt, math.MinInt} {
		out = append(out, api.Basis{Cols: filled(n, x), Rows: s.Rows}, api.Basis{Cols: s.Cols, Rows: filled(k, x)}, api.Basis{Cols: filled(n, x), Rows: filled(k, x)})
		out = append(out, api.Basis{Cols: append(slices.Clone(s.Cols), x), Rows: s.Rows}, api.Basis{Cols: s.Cols, Rows: append(slices.Clone(s.Rows), x)})
	}
	if n > 0 {
		out = append(out, api.Basis{Cols: s.Cols[1:], Rows: s.Rows})
	}
	if k > 0 {
		out = append(out, api.Basis{Cols: s.Cols, Rows: s.Rows[1:]})
	}
	return out
}

// walk: bases of m, each a step away from the one ahead: a column goes in for a row, or one of both goes to its other bound.
func walk(m api.Model, seed int) []api.Basis {
	state := uint64(seed)
	below := func(n int) int {
		state = state*6364136223846793005 + 1442695040888963407
		return int(state>>33) % n
	}
	b := slackOf(m)
	out := []api.Basis{b}
	for range 40 {
		next := api.Basis{Cols: slices.Clone(b.Cols), Rows: slices.Clone(b.Rows)}
		if len(m.Cols) > 0 {
			next.Cols[below(len(m.Cols))] = api.Status(below(4))
		}
		if len(m.Rows) > 0 {
			next.Rows[below(len(m.Rows))] = api.Status(below(3))
		}
		if isBasis(m, next) {
			b, out = next, append(out, next)
		}
	}
	return out
}

// TestHints: of every form, at models of each status.
func TestHints(t *testing.T) {
	broken, kept := 0, 0
	for seed := range 150 {
		m := sample.Mixed(seed)
		solved, _ := simplex.Solve(m)
		for _, b := range append(wrongHints(m), slackOf(m), solved.Basis) {
			checkHint(t, "a hint of any form", m, b, solved)
		}
		for _, b := range walk(m, seed) {
			checkHint(t, "a basis", m, b, solved)
			switch p, e := basis.Point(m, b); {
			case e != api.OK:
			case isPoint(m, p.X):
				kept++
			default:
				broken++
			}
		}
	}
	if broken < 100 || kept < 100 {
		t.Errorf("%d bases with points that break bounds, and %d that don't: too few are tried", broken, kept)
	}
}

// TestAllHints: all statuses of small models, also those that are not in form or not allowed.
func TestAllHints(t *testing.T) {
	bases, tried := 0, 0
	for _, text := range []string{
		"min 3 / col x -1 0 4 / col y -1 0 4 / row r -inf 6 1 x 2 y", "min 0 / col x 1 0 inf / col y 2 -inf inf / row r 1 4 1 x 1 y / row s 1 4 1 x 1 y",
		"min 0 / col x 1 0 1 / col y 1 -1 3 / row r 2 3 1 x 1 y / row s -1 1 1 x -1 y", "min 0 / col x -1 -inf inf / row r 5 9 2 x / row s -inf 2 3 x", "min 0 / col x -1 0 inf / col y 1 0 inf / row r -3 inf 1 x -2 y",
		"min 0 / col x 1 2 3 / row r 0 0 / row s -inf inf 1 x", "min 0 / col x 1 -3 3 / row r 1 1 / row s -1 5 1 x", "min 0 / col x 1 1 1 / col y -1 0 1 / row r 1 1 1 x / row s 2 4 3 x 1 y",
	} {
		m := read(t, text)
		n := len(m.Cols)
		solved, _ := simplex.Solve(m)
		every(n+len(m.Rows), func(list []api.Status) {
			b := of(n, slices.Clone(list)...)
			checkHint(t, "one of all", m, b, solved)
			tried++
			if isBasis(m, b) {
				bases++
			}
		})
	}
	if tried < 4000 || bases < 60 {
		t.Errorf("%d hints, %d of them bases: too few are tried", tried, bases)
	}
}

// every: each list of n statuses, with one below and one above those that there are.
func every(n int, visit func(list []api.Status)) {
	list := make([]api.Status, n)
	var next func(place int)
	next = func(place int) {
		if place == n {
			visit(list)
			return
		}
		for s := api.Status(-1); s <= 4; s++ {
			list[place] = s
			next(place + 1)
		}
	}
	next(0)
}
