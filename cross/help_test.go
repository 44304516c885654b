package cross_test

import (
	"math"
	"slices"
	"strings"
	"testing"

	"tableau/api"
	"tableau/basis"
	"tableau/cross"
	"tableau/point"
	"tableau/sample"
	"tableau/stack"
	"tableau/text"
	"tableau/trial"
)

func sameRat(a, b api.Rat) bool {
	return a.Neg == b.Neg && slices.Equal(a.Num, b.Num) && slices.Equal(a.Den, b.Den)
}

func sameRats(x, y []api.Rat) bool { return slices.EqualFunc(x, y, sameRat) }

func samePoint(p, q api.Point) bool {
	return sameRats(p.X, q.X) && sameRats(p.Y, q.Y) && sameRats(p.Z, q.Z)
}

func sameBasis(b, c api.Basis) bool {
	return slices.Equal(b.Cols, c.Cols) && slices.Equal(b.Rows, c.Rows)
}

// read: the model of a text whose lines are cut by /, with end as the last one; a fraction's / stands between digits.
func read(t *testing.T, s string) api.Model {
	t.Helper()
	m, at, e := text.Parse(strings.ReplaceAll(s, " / ", "\n") + "\nend\n")
	if e != api.OK {
		t.Fatalf("%q is no model: %d at %d", s, e, at)
	}
	return m
}

// nums: whole numbers.
func nums(l ...int) []api.Rat {
	var x []api.Rat
	for _, n := range l {
		x = append(x, sample.Frac(n, 1))
	}
	return x
}

// filled: so many times one thing.
func filled[T any](n int, r T) []T { return slices.Repeat([]T{r}, n) }

// slackOf: all rows Basic, each column at a bound.
func slackOf(m api.Model) api.Basis {
	b, _ := basis.Slack(m)
	return b
}

// checkOver: what Over answers is an optimal basis and its point, has the value of p, and is the hint and p, if the hint is p's optimal basis. It tells whether it was.
func checkOver(t *testing.T, m api.Model, p api.Point, hint api.Basis) (api.Basis, api.Point, bool) {
	t.Helper()
	b, q, e := cross.Over(m, p, hint)
	if is, f := basis.Optimal(m, b, q); e != api.OK || f != api.OK || !is {
		t.Fatalf("P26.1: Over(%v, %v, %v) = %v, %v, %d: no optimal basis and its point", m, p, hint, b, q, e)
	}
	v, _ := point.Value(m, p.X)
	if w, _ := point.Value(m, q.X); !sameRat(v, w) {
		t.Fatalf("P26.1: Over(%v, %v, %v) = %v, %v: another value", m, p, hint, b, q)
	}
	own, _ := basis.Optimal(m, hint, p)
	if own && !(sameBasis(b, hint) && samePoint(q, p)) {
		t.Fatalf("P26.1: Over(%v, %v, %v) = %v, %v: the hint is an optimal basis of the point", m, p, hint, b, q)
	}
	return b, q, own
}

// checkRefused: Over answers this error, and nothing beside it.
func checkRefused(t *testing.T, name string, m api.Model, p api.Point, hint api.Basis, want api.Errno) {
	t.Helper()
	b, q, e := cross.Over(m, p, hint)
	if e != want || !sameBasis(b, api.Basis{}) || !samePoint(q, api.Point{}) {
		t.Fatalf("P26.1: %s: Over(%v, %v, %v) = %v, %v, %d, want the error %d alone", name, m, p, hint, b, q, e, want)
	}
}

// wrongHints: of lengths that m's bases haven't, and with statuses that are none, or that may not stand together.
func wrongHints(m api.Model) []api.Basis {
	s, n, k := slackOf(m), len(m.Cols), len(m.Rows)
	out := []api.Basis{{}, {Cols: []api.Status{}, Rows: []api.Status{}}, {Cols: s.Cols}, {Rows: s.Rows}, {Cols: s.Rows, Rows: s.Cols}, {Cols: filled(200, api.Lower), Rows: filled(200, api.Basic)}}
	for _, x := range []api.Status{api.Basic, api.Lower, api.Upper, api.Free, -1, 4, math.MaxInt, math.MinInt} {
		out = append(out, api.Basis{Cols: filled(n, x), Rows: s.Rows}, api.Basis{Cols: s.Cols, Rows: filled(k, x)}, api.Basis{Cols: filled(n, x), Rows: filled(k, x)})
		out = append(out, api.Basis{Cols: append(slices.Clone(s.Cols), x), Rows: s.Rows}, api.Basis{Cols: s.Cols, Rows: append(slices.Clone(s.Rows), x)})
	}
	if n > 0 {
		out = append(out, api.Basis{Cols: s.Cols[1:], Rows: s.Rows})
	}
	if k > 0 {
		out = append(out, api.Basis{Cols: s.Cols, Rows: s.Rows[1:]})
	}
	return out
}

// walk: bases of m, most of them not optimal, each a step away from the one ahead: a column goes in for a row, or one of both goes to its other bound.
func walk(m api.Model, seed int) []api.Basis {
	state := uint64(seed)
	below := func(n int) int {
		state = state*6364136223846793005 + 1442695040888963407
		return int(state>>33) % n
	}
	b := slackOf(m)
	out := []api.Basis{b}
	for range 12 {
		next := api.Basis{Cols: slices.Clone(b.Cols), Rows: slices.Clone(b.Rows)}
		if len(m.Cols) > 0 {
			next.Cols[below(len(m.Cols))] = api.Status(below(4))
		}
		if len(m.Rows) > 0 {
			next.Rows[below(len(m.Rows))] = api.Status(below(3))
		}
		if is, _ := basis.Valid(m, next); is {
			b, out = next, append(out, next)
		}
	}
	return out
}

// A count is how often each thing was tried.
type count map[string]int

func (c count) check(t *testing.T, least int, names ...string) {
	t.Helper()
	for _, name := range names {
		if c[name] < least {
			t.Errorf("only %d of %s were tried", c[name], name)
		}
	}
}

// checkAll: KKT points that are known of m, with hints of every form. Where there are very many, some are enough.
func (c count) checkAll(t *testing.T, m api.Model, k trial.Known, seed int) {
	t.Helper()
	for i, p := range k.Kkts[:min(len(k.Kkts), 25)] {
		corner := slices.ContainsFunc(k.Bases, func(b stack.Corner) bool { return samePoint(b.Point, p) })
		c.tally(corner, "points of an optimal basis", "points of none")
		for _, b := range k.Bases[:min(len(k.Bases), 10)] {
			_, _, own := checkOver(t, m, p, b.Basis)
			c.tally(own, "hints of the point", "hints of another point")
			if !own && sameRats(b.Point.X, p.X) {
				c["hints of the same X"]++
			}
		}
		for _, b := range walk(m, seed+i) {
			_, _, own := checkOver(t, m, p, b)
			if is, _ := basis.Point(m, b); !own && !samePoint(is, p) {
				c["bases"]++
			}
		}
		for j, b := range wrongHints(m) {
			if (i+j+seed)%3 == 0 {
				checkOver(t, m, p, b)
				c["hints that are no basis"]++
			}
		}
	}
	if len(k.Bases) > 1 {
		c["models of several optimal bases"]++
	}
}

func (c count) tally(is bool, yes, no string) {
	if is {
		c[yes]++
	} else {
		c[no]++
	}
}
