package cross_test

import (
	"slices"
	"testing"

	"tableau/api"
	"tableau/basis"
	"tableau/cross"
	"tableau/sample"
	"tableau/stack"
	"tableau/trial"
)

// TestExample: the chapter's.
func TestExample(t *testing.T) {
	m := read(t, "min 0 / col x 0 0 4")
	for _, hint := range []api.Basis{{}, {Cols: []api.Status{api.Lower}}, {Cols: []api.Status{api.Upper}}, {Cols: []api.Status{api.Basic}}} {
		b, p, _ := checkOver(t, m, api.Point{X: nums(2), Z: nums(0)}, hint)
		lower := slices.Equal(b.Cols, []api.Status{api.Lower}) && sameRats(p.X, nums(0))
		upper := slices.Equal(b.Cols, []api.Status{api.Upper}) && sameRats(p.X, nums(4))
		if !lower && !upper || len(b.Rows)+len(p.Y) > 0 || !sameRats(p.Z, nums(0)) {
			t.Errorf("P26.1: Over with %v = %v, %v", hint, b, p)
		}
		checkRefused(t, "X 5", m, api.Point{X: nums(5), Z: nums(0)}, hint, api.ErrPoint)
	}
}

// TestAsItIs: a hint that is the optimal basis of the point, where there are others, too; and beside it one that is optimal, but of another point.
func TestAsItIs(t *testing.T) {
	m := read(t, "min 0 / col x 0 0 4")
	for v, status := range map[int]api.Status{0: api.Lower, 4: api.Upper} {
		p := api.Point{X: nums(v), Z: nums(0)}
		b, q, own := checkOver(t, m, p, api.Basis{Cols: []api.Status{status}})
		if !own || b.Cols[0] != status || !samePoint(p, q) {
			t.Errorf("P26.1: the hint %v at %d is not answered as it is: %v, %v", status, v, b, q)
		}
		if _, _, own := checkOver(t, m, p, api.Basis{Cols: []api.Status{api.Lower + api.Upper - status}}); own {
			t.Errorf("another point's basis is taken for that of %d", v)
		}
	}
	// Three bounds meet at 0, 0: each two of them are a basis there, and so are both bounds of a fixed column.
	m = read(t, "min 0 / col x 1 0 inf / col y 1 0 0 / row r 0 inf 1 x 1 y")
	own := 0
	for _, c := range trial.Of(m).Bases {
		if _, _, is := checkOver(t, m, c.Point, c.Basis); is {
			own++
		}
	}
	if own < 4 {
		t.Errorf("only %d bases of one X were tried", own)
	}
}

// TestNothing: without columns, without rows, and without both.
func TestNothing(t *testing.T) {
	for _, c := range []struct {
		text string
		p    api.Point
	}{
		{"min 7/2", api.Point{}},
		{"min 7/2", api.Point{X: []api.Rat{}, Y: []api.Rat{}, Z: []api.Rat{}}},
		{"min 0 / row r 0 0 / row s -inf inf / row t -1 inf / row u -inf 0", api.Point{Y: nums(0, 0, 0, 0)}},
		{"min 0 / row r 0 0 / row s -inf inf / row t -1 inf / row u -inf 0", api.Point{Y: nums(5, 0, 0, -7)}},
		{"min 0 / row r 0 0", api.Point{Y: nums(-1)}},
		{"min 0 / col x 0 -inf inf", api.Point{X: nums(0), Z: nums(0)}},
		{"min 0 / col x 0 -inf inf", api.Point{X: nums(-9), Z: nums(0)}},
		{"min 0 / col x 2 -3 inf / col y -1 -inf 8 / col z 5 6 6 / col w 0 0 9", api.Point{X: nums(-3, 8, 6, 5), Z: nums(2, -1, 5, 0)}},
	} {
		m := read(t, c.text)
		hints := append(wrongHints(m), walk(m, 1)...)
		for _, hint := range hints {
			b, p, _ := checkOver(t, m, c.p, hint)
			if len(b.Cols) != len(m.Cols) || len(b.Rows) != len(m.Rows) || len(p.X) != len(m.Cols) || len(p.Y) != len(m.Rows) || len(p.Z) != len(m.Cols) {
				t.Errorf("P26.1: of %s: %v, %v", c.text, b, p)
			}
		}
	}
}

// kinds: bounds of each kind around 1, at which a number may stand; and such that are further away.
func kinds() [][2]api.Ext {
	at := sample.At
	return [][2]api.Ext{{sample.Low(), sample.High()}, {at(1), at(1)}, {at(1), sample.High()}, {sample.Low(), at(1)}, {at(0), at(1)}, {at(1), at(2)}, {at(0), at(2)}, {at(-5), at(9)}}
}

// TestKinds: columns and rows that are free, fixed, bounded on one side and on both, beside one another, with costs of each sign.
func TestKinds(t *testing.T) {
	c, seed := count{}, 0
	for _, col := range kinds() {
		for _, row := range kinds() {
			for _, cost := range []int{-1, 0, 1} {
				m := api.Model{Offset: sample.Frac(1, 3), Cols: []api.Col{sample.Col("x", cost, col[0], col[1]), sample.Col("y", 1, sample.At(0), sample.At(4))}}
				m.Rows = []api.Row{sample.Row("r", row[0], row[1], sample.Term(0, 1), sample.Term(1, 1)), sample.Row("s", sample.Low(), sample.At(3), sample.Term(0, 1), sample.Term(1, -2))}
				seed++
				c.checkAll(t, m, trial.Of(m), seed)
			}
		}
	}
	c.check(t, 100, "points of an optimal basis", "points of none", "hints of the point", "hints of another point", "hints of the same X", "bases", "hints that are no basis", "models of several optimal bases")
}

// TestSeveral: all points of a side have the least value, and several multipliers show it.
func TestSeveral(t *testing.T) {
	c := count{}
	for seed, s := range []string{
		"min 0 / col x 0 0 4 / col y 0 -1 1 / row r -inf 4 1 x 1 y",
		"min 0 / col x 1 0 4 / col y 1 0 4 / row r 3 inf 1 x 1 y",
		"min 0 / col x 1 0 4 / col y 1 0 4 / row r 3 inf 1 x 1 y / row s 6 9 2 x 2 y",
		"min 0 / col x 1 0 inf / col y 0 0 0 / row r 0 inf 1 x / row s 0 0 1 x 1 y",
		"min 5 / col x -1 0 1 / col y -1 0 1 / row r -inf 2 1 x 1 y / row s -inf 2 2 x / row u -inf 1 1 y",
		"min 0 / col x 0 -inf inf / col y 0 -inf inf / row r 1 1 1 x 1 y",
	} {
		m := read(t, s)
		k := trial.Of(m)
		if len(k.Bases) < 3 {
			t.Errorf("%s has %d optimal bases", s, len(k.Bases))
		}
		c.checkAll(t, m, k, seed)
	}
	c.check(t, 20, "points of an optimal basis", "points of none", "hints of the point", "hints of another point", "hints of the same X")
}

// TestMultipliers: the X of a basis, with multipliers that are no basis's, and those of one basis with another one's X.
func TestMultipliers(t *testing.T) {
	m := read(t, "min 0 / col x 2 1 4 / row r 1 inf 1 x / row s 3 3 3 x")
	half := sample.Frac(1, 2)
	p := api.Point{X: nums(1), Y: []api.Rat{half, half}, Z: nums(0)}
	for _, hint := range append(wrongHints(m), walk(m, 3)...) {
		b, q, own := checkOver(t, m, p, hint)
		if own || samePoint(p, q) {
			t.Errorf("P26.1: %v is no basis's point, but is answered with %v", p, b)
		}
	}
	for _, hint := range trial.Of(m).Bases {
		if _, q, own := checkOver(t, m, p, hint.Basis); own || samePoint(p, q) {
			t.Errorf("P26.1: with the hint %v: %v", hint, q)
		}
	}
}

// TestSamples: KKT points and optimal bases that were made ahead of their models, in their own units and in long ones, the largest among them.
func TestSamples(t *testing.T) {
	for seed, k := range sample.Kkts() {
		checkSample(t, k.M, k.P, seed)
		m, p := sample.Stretched(k.M, k.P)
		checkSample(t, m, p, seed)
	}
	for seed, k := range sample.Bases() {
		checkBased(t, k.M, k.P, k.B, seed)
		m, p := sample.Stretched(k.M, k.P)
		checkBased(t, m, p, k.B, seed)
	}
}

// checkSample: of a large model with few hints.
func checkSample(t *testing.T, m api.Model, p api.Point, seed int) {
	t.Helper()
	hints := append(wrongHints(m), walk(m, seed)...)
	if len(m.Rows) > 20 {
		hints = []api.Basis{{}, slackOf(m)}
	}
	for _, hint := range hints {
		checkOver(t, m, p, hint)
	}
}

func checkBased(t *testing.T, m api.Model, p api.Point, b api.Basis, seed int) {
	t.Helper()
	if _, _, own := checkOver(t, m, p, b); !own {
		t.Fatalf("%v is no optimal basis of %v with the point %v", b, m, p)
	}
	checkSample(t, m, p, seed)
}

// TestLong: drawn models in long units, with all of their KKT points that are known.
func TestLong(t *testing.T) {
	c := count{}
	for seed := range 200 {
		m, _ := sample.Stretched(sample.Prunable(seed), api.Point{})
		c.checkAll(t, m, trial.Of(m), seed)
	}
	c.check(t, 20, "points of an optimal basis", "points of none", "hints of the point", "hints of another point")
}

// TestDrawn: drawn models with hints of every form.
func TestDrawn(t *testing.T) {
	c := count{}
	for seed := range 700 {
		m := sample.Mixed(seed)
		if seed%2 == 0 {
			m = sample.Prunable(seed)
		}
		c.checkAll(t, m, trial.Of(m), seed)
	}
	c.check(t, 60, "points of an optimal basis", "points of none", "hints of the point", "hints of another point", "hints of the same X", "bases", "hints that are no basis", "models of several optimal bases")
}

// TestAgain: what Over answers is answered as it is; and the same arguments are answered alike.
func TestAgain(t *testing.T) {
	again := func(m api.Model, p api.Point, hint api.Basis) {
		t.Helper()
		b, q, _ := checkOver(t, m, p, hint)
		if c, r, e := cross.Over(m, p, hint); e != api.OK || !sameBasis(b, c) || !samePoint(q, r) {
			t.Errorf("P2: Over(%v, %v, %v): %v, %v, then %v, %v, %d", m, p, hint, b, q, c, r, e)
		}
		if c, r, own := checkOver(t, m, q, b); !own || !sameBasis(b, c) || !samePoint(q, r) {
			t.Errorf("P26.1: Over of its own answer: %v, %v, then %v, %v", b, q, c, r)
		}
	}
	for seed, k := range sample.Kkts() {
		if len(k.M.Rows) > 20 {
			continue
		}
		for _, hint := range append(walk(k.M, seed), api.Basis{}) {
			again(k.M, k.P, hint)
		}
	}
	for _, k := range sample.Bases() {
		if len(k.M.Rows) < 20 {
			again(k.M, k.P, k.B)
			again(k.M, k.P, api.Basis{})
		}
	}
}

// TestCorners: of a point that is no basis's Over answers one that is, of each model that has such a point in the middle of a side.
func TestCorners(t *testing.T) {
	moved := 0
	for seed := range 300 {
		m := sample.Prunable(seed)
		k := trial.Of(m)
		for _, p := range k.Kkts {
			if slices.ContainsFunc(k.Bases, func(c stack.Corner) bool { return sameRats(c.Point.X, p.X) }) {
				continue
			}
			b, q, _ := checkOver(t, m, p, api.Basis{})
			if own, e := basis.Point(m, b); e != api.OK || !samePoint(own, q) || sameRats(q.X, p.X) {
				t.Fatalf("P26.1: of %v: Over(%v) = %v, %v", m, p, b, q)
			}
			moved++
		}
	}
	if moved < 50 {
		t.Errorf("only %d points between corners were tried", moved)
	}
}
