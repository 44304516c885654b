package cross_test

import (
	"slices"
	"testing"

	"tableau/api"
	"tableau/basis"
	"tableau/cross"
	"tableau/dual"
	"tableau/rat"
	"tableau/sample"
	"tableau/simplex"
)

// TestBroken: a model that is not well formed has its error, whatever the point and the hint.
func TestBroken(t *testing.T) {
	one := sample.Frac(1, 1)
	for _, k := range sample.Brokens() {
		n, rows := len(k.M.Cols), len(k.M.Rows)
		for _, p := range []api.Point{{}, {X: filled(n, one), Y: filled(rows, one), Z: filled(n, one)}, {X: filled(n+1, one), Z: nums(1)}, {X: filled(n, api.Rat{}), Y: filled(rows, api.Rat{Neg: true}), Z: filled(n, one)}} {
			for _, hint := range []api.Basis{{}, {Cols: filled(n, api.Lower), Rows: filled(rows, api.Basic)}, {Cols: filled(n, api.Status(9)), Rows: filled(rows, api.Status(-1))}, {Cols: filled(n+1, api.Basic)}} {
				checkRefused(t, k.Name, k.M, p, hint, k.E)
			}
		}
	}
}

// lists: those of a point, to be changed in place.
func lists(p *api.Point) []*[]api.Rat { return []*[]api.Rat{&p.X, &p.Y, &p.Z} }

// copied: the same point with lists of its own, but for limbs.
func copied(p api.Point) api.Point {
	return api.Point{X: slices.Clone(p.X), Y: slices.Clone(p.Y), Z: slices.Clone(p.Z)}
}

// checkLike: ErrPoint just where p is no KKT point, whatever the hint; it tells whether it is one.
func checkLike(t *testing.T, name string, m api.Model, p api.Point, hints ...api.Basis) bool {
	t.Helper()
	holds, _ := dual.Holds(m, p)
	for _, hint := range hints {
		if holds {
			checkOver(t, m, p, hint)
		} else {
			checkRefused(t, name, m, p, hint, api.ErrPoint)
		}
	}
	return holds
}

// TestNoKkt: each number of a KKT point otherwise, a little and much; numbers that are not in form; lists of other lengths. The hints are those that would be right.
func TestNoKkt(t *testing.T) {
	wrong, right := 0, 0
	for _, k := range sample.Bases() {
		if len(k.M.Rows) > 20 {
			continue
		}
		hints := []api.Basis{k.B, {}, slackOf(k.M)}
		for i, list := range lists(&k.P) {
			for place, r := range *list {
				for _, by := range []api.Rat{{Num: []uint64{1}, Den: []uint64{0, 0, 1}}, {Neg: true, Num: []uint64{1}, Den: []uint64{0, 0, 1}}, sample.Frac(7, 3), sample.Frac(-7, 3)} {
					p := copied(k.P)
					(*lists(&p)[i])[place], _ = rat.Add(r, by)
					if checkLike(t, "another number", k.M, p, hints...) {
						right++
					} else {
						wrong++
					}
				}
				for _, bad := range append(sample.BadRats(), api.Rat{Neg: r.Neg, Num: append(slices.Clone(r.Num), 0), Den: r.Den}) {
					p := copied(k.P)
					(*lists(&p)[i])[place] = bad
					checkRefused(t, "a number not in form", k.M, p, k.B, api.ErrPoint)
				}
			}
			checkLengths(t, k.M, k.P, k.B, i)
		}
	}
	if wrong < 500 || right < 20 {
		t.Errorf("%d points that are none, and %d that are: too few are tried", wrong, right)
	}
}

// checkLengths: that list of the point longer, shorter and nil.
func checkLengths(t *testing.T, m api.Model, kkt api.Point, hint api.Basis, list int) {
	t.Helper()
	for _, more := range []api.Rat{sample.Frac(0, 1), sample.Frac(1, 1), {}} {
		p := copied(kkt)
		*lists(&p)[list] = append(*lists(&p)[list], more)
		checkRefused(t, "a number too many", m, p, hint, api.ErrPoint)
	}
	n := len(*lists(&kkt)[list])
	if n == 0 {
		return
	}
	for _, cut := range [][2]int{{1, n}, {0, n - 1}, {0, 0}} {
		p := copied(kkt)
		*lists(&p)[list] = (*lists(&p)[list])[cut[0]:cut[1]]
		checkRefused(t, "a list too short", m, p, hint, api.ErrPoint)
	}
}

// TestRefused: points that break a bound of a column, of a row, by a little; multipliers of the wrong sign, beside infinite bounds, and of what is between its bounds; reduced costs that are not those by the multipliers.
func TestRefused(t *testing.T) {
	for _, c := range []struct {
		text string
		p    api.Point
	}{
		{"min 0 / col x 0 0 4", api.Point{X: nums(5), Z: nums(0)}},
		{"min 0 / col x 0 0 4", api.Point{X: nums(-1), Z: nums(0)}},
		{"min 0 / col x 0 0 4", api.Point{X: nums(0), Z: nums(1)}},
		{"min 0 / col x 0 0 4", api.Point{X: nums(4), Z: nums(0), Y: nums(0)}},
		{"min 0 / col x 1 0 4", api.Point{X: nums(4), Z: nums(1)}},
		{"min 0 / col x 1 0 4", api.Point{X: nums(2), Z: nums(1)}},
		{"min 0 / col x 1 0 4", api.Point{X: nums(0), Z: nums(0)}},
		{"min 0 / col x -1 0 4", api.Point{X: nums(0), Z: nums(-1)}},
		{"min 0 / col x -1 0 inf", api.Point{X: nums(0), Z: nums(-1)}},
		{"min 0 / col x 1 -inf inf", api.Point{X: nums(0), Z: nums(1)}},
		{"min 0 / col x 1 0 4 / row r 1 3 1 x", api.Point{X: nums(0), Y: nums(0), Z: nums(1)}},
		{"min 0 / col x 1 0 4 / row r 1 3 1 x", api.Point{X: nums(3), Y: nums(1), Z: nums(0)}},
		{"min 0 / col x 1 0 4 / row r 1 3 1 x", api.Point{X: nums(1), Y: nums(2), Z: nums(-1)}},
		{"min 0 / col x -1 0 4 / row r 1 3 1 x", api.Point{X: nums(1), Y: nums(-1), Z: nums(0)}},
		{"min 0 / col x 1 0 4 / row r -inf inf 1 x", api.Point{X: nums(0), Y: nums(1), Z: nums(0)}},
		{"min 0 / row r 1 1", api.Point{Y: nums(0)}},
		{"min 0 / row r 0 3", api.Point{Y: nums(-1)}},
		{"min 0 / row r -3 0", api.Point{Y: nums(1)}},
		{"min 0 / col x 0 2 1", api.Point{X: nums(2), Z: nums(0)}},
		{"min 0 / col x 0 2 1", api.Point{X: nums(1), Z: nums(0)}},
		{"min 0 / col x 0 0 1 / row r 2 -2 1 x", api.Point{X: nums(0), Y: nums(0), Z: nums(0)}},
	} {
		m := read(t, c.text)
		for _, hint := range append(wrongHints(m), walk(m, 5)...) {
			checkRefused(t, c.text, m, c.p, hint, api.ErrPoint)
		}
	}
}

// TestNoLeast: models without a point, and without a least value, have no KKT point, whatever the basis.
func TestNoLeast(t *testing.T) {
	tried := [4]int{}
	for seed := range 200 {
		m := sample.Mixed(seed)
		a, _ := simplex.Solve(m)
		for _, b := range walk(m, seed) {
			p, _ := basis.Point(m, b)
			if checkLike(t, "a basis's point", m, p, b, api.Basis{}) != (a.Status == api.Optimal && isOptimal(m, b, p)) {
				t.Errorf("P26.1: %v of %v, whose status is %d", p, m, a.Status)
			}
			tried[a.Status]++
		}
	}
	if min(tried[api.Optimal], tried[api.Infeasible], tried[api.Unbounded]) < 100 {
		t.Errorf("%v: too few are tried", tried)
	}
}

func isOptimal(m api.Model, b api.Basis, p api.Point) bool {
	is, _ := basis.Optimal(m, b, p)
	return is
}

// TestOther: KKT points of other models of the same size.
func TestOther(t *testing.T) {
	wrong := 0
	all := sample.Kkts()
	for i, k := range all {
		for _, other := range all[:i] {
			if len(k.M.Rows) < 20 && len(other.P.X) == len(k.P.X) && len(other.P.Y) == len(k.P.Y) && !checkLike(t, "another model's", k.M, other.P, api.Basis{}, slackOf(k.M)) {
				wrong++
			}
		}
	}
	if wrong < 10 {
		t.Errorf("only %d points of other models were tried", wrong)
	}
}

// TestOrder: a model that is not well formed comes ahead of a point that is none.
func TestOrder(t *testing.T) {
	m := read(t, "min 0 / col x 0 0 4")
	m.Cols[0].Name = ""
	if _, _, e := cross.Over(m, api.Point{X: nums(5)}, api.Basis{}); e != api.ErrName {
		t.Errorf("P26.1: %d, want ErrName", e)
	}
	m.Rows = []api.Row{sample.Row("r", sample.At(0), sample.At(1), sample.Term(7, 1))}
	m.Cols[0].Name = "x"
	if _, _, e := cross.Over(m, api.Point{X: nums(5)}, api.Basis{}); e != api.ErrUnlike {
		t.Errorf("P26.1: %d, want ErrUnlike", e)
	}
}
