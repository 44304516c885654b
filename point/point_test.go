package point_test

import (
	"math/big"
	"slices"
	"testing"

	"tableau/api"
	"tableau/point"
	"tableau/sample"
)

// checkPoint holds all four calls against the definitions.
func checkPoint(t *testing.T, m api.Model, x []api.Rat) {
	t.Helper()
	if acts, e := point.Activities(m, x); e != api.OK || !slices.EqualFunc(acts, activitiesOf(m, x), sameRat) {
		t.Errorf("P10.1: Activities at %v of %v = %v, %d, want %v", x, m, acts, e, activitiesOf(m, x))
	}
	if v, e := point.Value(m, x); e != api.OK || !sameRat(v, valueOf(m, x)) {
		t.Errorf("P10.1: Value at %v of %v = %v, %d, want %v", x, m, v, e, valueOf(m, x))
	}
	cols, rows := brokenOf(m, x)
	if c, r, e := point.Broken(m, x); e != api.OK || !slices.Equal(c, cols) || !slices.Equal(r, rows) {
		t.Errorf("P10.1: Broken at %v of %v = %v, %v, %d, want %v, %v", x, m, c, r, e, cols, rows)
	}
	want := len(cols)+len(rows) == 0
	if is, e := point.Feasible(m, x); e != api.OK || is != want {
		t.Errorf("P10.1: Feasible at %v of %v = %v, %d, want %v", x, m, is, e, want)
	}
}

// checkBroken: just these places are broken.
func checkBroken(t *testing.T, m api.Model, x []api.Rat, cols, rows []int) {
	t.Helper()
	checkPoint(t, m, x)
	if c, r, _ := point.Broken(m, x); !slices.Equal(c, cols) || !slices.Equal(r, rows) {
		t.Errorf("P10.1: Broken at %v of %v = %v, %v, want %v, %v", x, m, c, r, cols, rows)
	}
}

// TestExamples: those of the chapter.
func TestExamples(t *testing.T) {
	small := func() api.Model {
		cols := []api.Col{sample.Col("x", 3, sample.At(0), sample.High()), sample.Col("y", 0, sample.Low(), sample.High())}
		row := sample.Row("r", sample.At(1), sample.At(5), sample.Term(0, 1), sample.Term(1, 2))
		return api.Model{Offset: sample.Frac(1, 1), Cols: cols, Rows: []api.Row{row}}
	}
	acts, e := point.Activities(small(), nums(1, 1))
	if e != api.OK || len(acts) != 1 || !sameRat(acts[0], sample.Frac(3, 1)) {
		t.Errorf("P10.1: Activities = %v, %d", acts, e)
	}
	if v, e := point.Value(small(), nums(1, 1)); e != api.OK || !sameRat(v, sample.Frac(4, 1)) {
		t.Errorf("P10.1: Value = %v, %d", v, e)
	}
	if is, e := point.Feasible(small(), nums(1, 1)); e != api.OK || !is {
		t.Errorf("P10.1: Feasible = %v, %d", is, e)
	}
	checkBroken(t, small(), nums(-1, 0), []int{0}, []int{0})
	if is, e := point.Feasible(small(), nums(1, 1, 1)); is || e != api.ErrUnlike {
		t.Errorf("P10.1: Feasible of three numbers = %v, %d", is, e)
	}
}

// TestModels: models of all kinds at numbers of all kinds.
func TestModels(t *testing.T) {
	broken, kept := 0, 0
	for _, m := range sample.Models() {
		for _, x := range lists(m) {
			checkPoint(t, m, x)
			if cols, rows := brokenOf(m, x); len(cols)+len(rows) > 0 {
				broken++
			} else {
				kept++
			}
		}
	}
	if broken < 50 || kept < 30 {
		t.Errorf("%d lists break bounds and %d don't: too few are tried", broken, kept)
	}
}

// TestPoints: points that are known to be some.
func TestPoints(t *testing.T) {
	for i, k := range sample.Kkts() {
		checkPoint(t, k.M, k.P.X)
		if is, e := point.Feasible(k.M, k.P.X); !is || e != api.OK {
			t.Errorf("P10.1: Feasible at the point of model %d: %v, %d", i, is, e)
		}
	}
}

// A bounded number keeps its bounds or not.
type bounded struct {
	v      api.Rat
	lo, hi api.Ext
	keeps  bool
}

func boundeds() []bounded {
	frac, at, low, high := sample.Frac, sample.At, sample.Low, sample.High
	step := toBig(tiny())
	above := func(n int64) api.Rat { return fromBig(new(big.Rat).Add(big.NewRat(n, 1), step)) }
	below := func(n int64) api.Rat { return fromBig(new(big.Rat).Sub(big.NewRat(n, 1), step)) }
	return []bounded{
		{frac(2, 1), at(2), high(), true}, {above(2), at(2), high(), true}, {below(2), at(2), high(), false},
		{frac(2, 1), low(), at(2), true}, {above(2), low(), at(2), false}, {below(2), low(), at(2), true},
		{frac(-2, 1), at(-2), at(3), true}, {above(-2), at(-2), at(3), true}, {below(-2), at(-2), at(3), false},
		{frac(3, 1), at(-2), at(3), true}, {above(3), at(-2), at(3), false}, {below(3), at(-2), at(3), true},
		{frac(3, 1), at(3), at(3), true}, {above(3), at(3), at(3), false}, {below(3), at(3), at(3), false},
		{frac(0, 1), at(0), at(0), true}, {tiny(), at(0), at(0), false}, {below(0), at(0), at(0), false},
		{frac(0, 1), low(), high(), true}, {frac(-1<<62, 1), low(), high(), true}, {frac(1<<62, 1), low(), high(), true},
		{frac(2, 1), at(2), at(1), false}, {frac(1, 1), at(2), at(1), false}, {frac(3, 2), at(2), at(1), false}, {frac(0, 1), at(2), at(1), false}, {frac(3, 1), at(2), at(1), false},
		{frac(1, 3), sample.AtFrac(1, 3), sample.AtFrac(1, 2), true}, {frac(1, 2), sample.AtFrac(1, 3), sample.AtFrac(1, 2), true}, {frac(2, 3), sample.AtFrac(1, 3), sample.AtFrac(1, 2), false}, {frac(1, 4), sample.AtFrac(1, 3), sample.AtFrac(1, 2), false},
	}
}

// TestBounds: each of them as a column's, and as a row's beside a column without bounds.
func TestBounds(t *testing.T) {
	for _, b := range boundeds() {
		col := api.Model{Offset: sample.Frac(0, 1), Cols: []api.Col{sample.Col("x", 1, b.lo, b.hi)}}
		row := api.Model{Offset: sample.Frac(0, 1), Cols: []api.Col{sample.Col("x", 1, sample.Low(), sample.High())}, Rows: []api.Row{sample.Row("r", b.lo, b.hi, sample.Term(0, 1))}}
		turned := api.Model{Offset: sample.Frac(0, 1), Cols: []api.Col{sample.Col("x", 1, sample.Low(), sample.High())}, Rows: []api.Row{sample.Row("r", b.lo, b.hi, sample.Term(0, -1))}}
		var broken []int
		if !b.keeps {
			broken = []int{0}
		}
		checkBroken(t, col, []api.Rat{b.v}, broken, nil)
		checkBroken(t, row, []api.Rat{b.v}, nil, broken)
		back := b.v
		back.Neg = !back.Neg && len(back.Num) > 0
		checkBroken(t, turned, []api.Rat{back}, nil, broken)
		if is, e := point.Feasible(col, []api.Rat{b.v}); is != b.keeps || e != api.OK {
			t.Errorf("P10.1: Feasible of %v = %v, %d", b, is, e)
		}
		if is, e := point.Feasible(row, []api.Rat{b.v}); is != b.keeps || e != api.OK {
			t.Errorf("P10.1: Feasible of %v as an activity = %v, %d", b, is, e)
		}
	}
}

// TestSeveral: all broken places are told, rising: of columns and of rows, the first and the last, all and none.
func TestSeveral(t *testing.T) {
	m := api.Model{Offset: sample.Frac(0, 1)}
	for _, name := range []string{"a", "b", "c", "d"} {
		m.Cols = append(m.Cols, sample.Col(name, 1, sample.At(0), sample.At(10)))
	}
	for i, name := range []string{"p", "q", "r"} {
		m.Rows = append(m.Rows, sample.Row(name, sample.At(1), sample.At(12), sample.Term(i, 1), sample.Term(i+1, 1)))
	}
	checkBroken(t, m, nums(5, 5, 5, 5), nil, nil)
	checkBroken(t, m, nums(0, 0, 0, 0), nil, []int{0, 1, 2})
	checkBroken(t, m, nums(-1, 2, 2, 11), []int{0, 3}, []int{2})
	checkBroken(t, m, nums(11, -1, 11, -1), []int{0, 1, 2, 3}, nil)
	checkBroken(t, m, nums(-3, 2, 2, -3), []int{0, 3}, []int{0, 2})
	checkBroken(t, m, nums(10, 2, 10, 10), nil, []int{2})
	checkBroken(t, m, nums(20, 20, 20, 20), []int{0, 1, 2, 3}, []int{0, 1, 2})
	checkBroken(t, m, nums(5, -2, 2, 5), []int{1}, []int{1})
}

// TestLargest: MaxCols columns and MaxRows rows, all of them broken, and just the last.
func TestLargest(t *testing.T) {
	full := sample.Full()
	var all []int
	for i := range api.MaxCols {
		all = append(all, i)
		full.Rows[i].Lo = sample.At(1)
		full.Rows[i].Terms = []api.Term{sample.Term(i, -1)}
	}
	checkBroken(t, full, filled(api.MaxCols, sample.Frac(100, 1)), all, all)
	last := filled(api.MaxCols, sample.Frac(0, 1))
	for i := range full.Rows {
		full.Rows[i].Lo = sample.At(-63)
	}
	checkBroken(t, full, last, nil, nil)
	last[63] = sample.Frac(64, 1)
	checkBroken(t, full, last, []int{63}, []int{63})
	for _, r := range sample.Full().Rows {
		if len(r.Terms) == 0 {
			t.Errorf("the row %s has no terms", r.Name)
		}
	}
	checkPoint(t, sample.Full(), last)
}

// TestNothing: without columns, without rows, and rows without terms, whose activity is 0.
func TestNothing(t *testing.T) {
	none := api.Model{Offset: sample.Frac(-7, 3)}
	for _, x := range [][]api.Rat{nil, {}} {
		checkBroken(t, none, x, nil, nil)
		if v, e := point.Value(none, x); e != api.OK || !sameRat(v, sample.Frac(-7, 3)) {
			t.Errorf("P10.1: Value without columns = %v, %d", v, e)
		}
	}
	rows := none
	rows.Rows = []api.Row{
		sample.Row("a", sample.At(0), sample.At(0)), sample.Row("b", sample.At(1), sample.At(2)), sample.Row("c", sample.Low(), sample.High()),
		sample.Row("d", sample.Low(), sample.At(-1)), sample.Row("e", sample.At(1), sample.At(-1)), sample.Row("f", sample.At(-1), sample.At(1)),
	}
	checkBroken(t, rows, nil, nil, []int{1, 3, 4})
	acts, e := point.Activities(rows, nil)
	if e != api.OK || !slices.EqualFunc(acts, nums(0, 0, 0, 0, 0, 0), sameRat) {
		t.Errorf("P10.1: Activities of rows without terms = %v, %d", acts, e)
	}
	cols := api.Model{Offset: sample.Frac(1, 2), Cols: []api.Col{sample.Col("x", 0, sample.At(0), sample.High()), sample.Col("y", -2, sample.Low(), sample.At(3))}}
	checkBroken(t, cols, nums(-1, 4), []int{0, 1}, nil)
	if acts, e := point.Activities(cols, nums(-1, 4)); e != api.OK || len(acts) != 0 {
		t.Errorf("P10.1: Activities without rows = %v, %d", acts, e)
	}
	if v, e := point.Value(cols, nums(-1, 4)); e != api.OK || !sameRat(v, sample.Frac(-15, 2)) {
		t.Errorf("P10.1: Value without rows = %v, %d", v, e)
	}
}

// TestSum: none, one and more of them.
func TestSum(t *testing.T) {
	if v := point.Sum(); !sameRat(v, sample.Frac(0, 1)) {
		t.Errorf("Sum() = %v", v)
	}
	all := sample.Rats()
	want := new(big.Rat)
	for i, r := range all {
		if v := point.Sum(r); !sameRat(v, r) {
			t.Errorf("Sum(%v) = %v", r, v)
		}
		want.Add(want, toBig(r))
		if v := point.Sum(all[:i+1]...); !sameRat(v, fromBig(want)) {
			t.Errorf("Sum of %d numbers = %v, want %v", i+1, v, want)
		}
	}
	if v := point.Sum(sample.Frac(1, 6), sample.Frac(-1, 2), sample.Frac(1, 3)); !sameRat(v, sample.Frac(0, 1)) {
		t.Errorf("Sum of what comes to 0 = %v", v)
	}
}
