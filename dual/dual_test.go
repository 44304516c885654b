package dual_test

import (
	"math/big"
	"slices"
	"testing"

	"tableau/api"
	"tableau/dual"
	"tableau/point"
	"tableau/sample"
)

// checkDual holds Reduced and Bound against the definitions.
func checkDual(t *testing.T, m api.Model, y []api.Rat) {
	t.Helper()
	var want []api.Rat
	for _, z := range reducedOf(m, y) {
		want = append(want, fromBig(z))
	}
	if z, e := dual.Reduced(m, y); e != api.OK || !slices.EqualFunc(z, want, sameRat) {
		t.Errorf("P11.1: Reduced by %v of %v = %v, %d, want %v", y, m, z, e, want)
	}
	sum, finite := boundOf(m, y)
	if !finite {
		checkLow(t, m, y)
		return
	}
	if b, e := dual.Bound(m, y); e != api.OK || b.Inf != 0 || !sameRat(b.V, fromBig(sum)) {
		t.Errorf("P11.2: Bound by %v of %v = %v, %d, want %v", y, m, b, e, sum)
	}
}

func checkLow(t *testing.T, m api.Model, y []api.Rat) {
	t.Helper()
	if b, e := dual.Bound(m, y); e != api.OK || b.Inf != -1 || !sameRat(b.V, sample.Frac(0, 1)) {
		t.Errorf("P11.2: Bound by %v of %v = %v, %d, want minus infinity", y, m, b, e)
	}
}

func checkNumber(t *testing.T, m api.Model, y []api.Rat, want api.Rat) {
	t.Helper()
	if b, e := dual.Bound(m, y); e != api.OK || b.Inf != 0 || !sameRat(b.V, want) {
		t.Errorf("P11.2: Bound by %v of %v = %v, %d, want %v", y, m, b, e, want)
	}
}

// example: the least of 3 - x - y, x and y from 0 to 4, x + 2y at most 6.
func example() api.Model {
	at, low := sample.At, sample.Low
	cols := []api.Col{sample.Col("x", -1, at(0), at(4)), sample.Col("y", -1, at(0), at(4))}
	return api.Model{Offset: sample.Frac(3, 1), Cols: cols, Rows: []api.Row{sample.Row("r", low(), at(6), sample.Term(0, 1), sample.Term(1, 2))}}
}

// TestExamples: those of the chapter.
func TestExamples(t *testing.T) {
	half, zero := sample.Frac(-1, 2), sample.Frac(0, 1)
	z, e := dual.Reduced(example(), []api.Rat{half})
	if e != api.OK || !slices.EqualFunc(z, []api.Rat{half, zero}, sameRat) {
		t.Errorf("P11.1: Reduced = %v, %d", z, e)
	}
	checkNumber(t, example(), []api.Rat{half}, sample.Frac(-2, 1))
	checkLow(t, example(), nums(1))
	checkHolds(t, "the example's", example(), api.Point{X: nums(4, 1), Y: []api.Rat{half}, Z: []api.Rat{half, zero}}, true)
}

// TestModels: models of all kinds by multipliers of all kinds.
func TestModels(t *testing.T) {
	finite, infinite := 0, 0
	for _, m := range sample.Models() {
		for _, y := range multipliers(len(m.Rows)) {
			checkDual(t, m, y)
			if _, is := boundOf(m, y); is {
				finite++
			} else {
				infinite++
			}
		}
	}
	if finite < 30 || infinite < 30 {
		t.Errorf("%d bounds are numbers and %d aren't: too few are tried", finite, infinite)
	}
}

// TestSides: the bound of a row, and of a column by its reduced cost, for multipliers of either sign and 0; an infinite one counts only where its multiplier isn't 0.
func TestSides(t *testing.T) {
	for _, c := range []struct {
		w      int
		lo, hi api.Ext
		want   int // times 2
		finite bool
	}{
		{2, sample.At(3), sample.At(5), 12, true}, {-2, sample.At(3), sample.At(5), -20, true}, {0, sample.At(3), sample.At(5), 0, true},
		{2, sample.At(-3), sample.High(), -12, true}, {-2, sample.At(-3), sample.High(), 0, false}, {0, sample.At(-3), sample.High(), 0, true},
		{2, sample.Low(), sample.At(5), 0, false}, {-2, sample.Low(), sample.At(-5), 20, true}, {0, sample.Low(), sample.At(5), 0, true},
		{2, sample.Low(), sample.High(), 0, false}, {-2, sample.Low(), sample.High(), 0, false}, {0, sample.Low(), sample.High(), 0, true},
		{2, sample.At(5), sample.At(3), 20, true}, {-2, sample.At(5), sample.At(3), -12, true}, {2, sample.At(0), sample.High(), 0, true}, {-2, sample.Low(), sample.At(0), 0, true},
		{3, sample.AtFrac(-1, 2), sample.High(), -3, true}, {-3, sample.Low(), sample.AtFrac(1, 6), -1, true},
	} {
		one := sample.AtFrac(1, 2)
		byRow := api.Model{Offset: one.V, Rows: []api.Row{sample.Row("r", c.lo, c.hi)}}
		byCol := api.Model{Offset: one.V, Cols: []api.Col{sample.Col("x", c.w, c.lo, c.hi)}}
		// The cost is 1, and the multiplier takes 1 less the wanted: so the reduced cost is it. The row is at 0.
		byBoth := api.Model{Offset: one.V, Cols: []api.Col{sample.Col("x", 1, c.lo, c.hi)}, Rows: []api.Row{sample.Row("r", sample.At(0), sample.At(0), sample.Term(0, 1))}}
		for _, made := range []struct {
			m api.Model
			y []api.Rat
		}{{byRow, nums(c.w)}, {byCol, nil}, {byBoth, nums(1 - c.w)}} {
			checkDual(t, made.m, made.y)
			if c.finite {
				checkNumber(t, made.m, made.y, sample.Frac(c.want+1, 2))
			} else {
				checkLow(t, made.m, made.y)
			}
		}
	}
}

// TestNothing: without columns, without rows, and rows without terms.
func TestNothing(t *testing.T) {
	none := api.Model{Offset: sample.Frac(-7, 3)}
	for _, y := range [][]api.Rat{nil, {}} {
		checkDual(t, none, y)
		checkNumber(t, none, y, sample.Frac(-7, 3))
		if z, e := dual.Reduced(none, y); e != api.OK || len(z) != 0 {
			t.Errorf("P11.1: Reduced without columns = %v, %d", z, e)
		}
		checkHolds(t, "nothing", none, api.Point{Y: y}, true)
	}
	alone := none
	alone.Cols = []api.Col{sample.Col("x", 0, sample.Low(), sample.High()), sample.Col("y", -2, sample.At(1), sample.At(3))}
	if z, e := dual.Reduced(alone, nil); e != api.OK || !slices.EqualFunc(z, nums(0, -2), sameRat) {
		t.Errorf("P11.1: Reduced without rows = %v, %d", z, e)
	}
	checkNumber(t, alone, nil, sample.Frac(-25, 3))
	rows := none
	rows.Rows = []api.Row{sample.Row("a", sample.At(1), sample.At(2)), sample.Row("b", sample.Low(), sample.High())}
	checkNumber(t, rows, nums(3, 0), sample.Frac(2, 3))
	checkLow(t, rows, nums(3, -1))
}

// TestLargest: MaxCols columns and MaxRows rows.
func TestLargest(t *testing.T) {
	full := sample.Full()
	for _, y := range multipliers(api.MaxRows) {
		checkDual(t, full, y)
	}
	last := filled(api.MaxRows, sample.Frac(0, 1))
	last[63] = sample.Frac(-1, 1)
	checkLow(t, full, last)
	full.Rows[63].Hi = sample.At(100)
	checkDual(t, full, last)
	if b, e := dual.Bound(full, last); e != api.OK || b.Inf != 0 {
		t.Errorf("P11.2: Bound by the last of 64 rows = %v, %d", b, e)
	}
}

// TestNoLower: no point has a value below the bound, a KKT point has just it.
func TestNoLower(t *testing.T) {
	for i, k := range sample.Kkts() {
		b, e := dual.Bound(k.M, k.P.Y)
		v, _ := point.Value(k.M, k.P.X)
		if e != api.OK || b.Inf != 0 || !sameRat(b.V, v) {
			t.Errorf("P11.2: Bound by the KKT point of model %d = %v, %d, its value is %v", i, b, e, v)
		}
		value := valueOf(k.M, k.P.X)
		for _, y := range multipliers(len(k.M.Rows)) {
			b, e := dual.Bound(k.M, y)
			if e != api.OK || b.Inf == 1 || b.Inf == 0 && toBig(b.V).Cmp(value) > 0 {
				t.Errorf("P11.2: Bound by %v of model %d = %v, %d, above a value", y, i, b, e)
			}
		}
	}
	// Whole numbers from -4 to 4 for the columns.
	for seed := range 60 {
		m := sample.Drawn(seed)
		if len(m.Cols) > 3 {
			continue
		}
		for _, y := range multipliers(len(m.Rows)) {
			if b, _ := dual.Bound(m, y); b.Inf == 0 {
				checkNoLower(t, m, toBig(b.V))
			}
		}
	}
}

func checkNoLower(t *testing.T, m api.Model, bound *big.Rat) {
	t.Helper()
	for code := range 9 * 9 * 9 {
		x := nums(code%9-4, code/9%9-4, code/81-4)[:len(m.Cols)]
		if is, _ := point.Feasible(m, x); is && valueOf(m, x).Cmp(bound) < 0 {
			t.Errorf("P11.2: a bound of %v, but the value at %v of %v is %v", bound, x, m, valueOf(m, x))
		}
	}
}
