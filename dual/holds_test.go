package dual_test

import (
	"math/big"
	"slices"
	"testing"

	"tableau/api"
	"tableau/dual"
	"tableau/sample"
)

func checkHolds(t *testing.T, name string, m api.Model, p api.Point, want bool) {
	t.Helper()
	if is, e := dual.Holds(m, p); e != api.OK || is != want {
		t.Errorf("P11.1: Holds, %s: %v, %d, want %v: %v of %v", name, is, e, want, p, m)
	}
}

// checkLike: Holds says what the definition says, which is told.
func checkLike(t *testing.T, name string, m api.Model, p api.Point) bool {
	t.Helper()
	want := holdsOf(m, p)
	checkHolds(t, name, m, p, want)
	return want
}

// moved: the list with this much more at this place.
func moved(x []api.Rat, place int, more *big.Rat) []api.Rat {
	out := slices.Clone(x)
	out[place] = fromBig(new(big.Rat).Add(toBig(x[place]), more))
	return out
}

// steps: what a number is moved by.
func steps() []*big.Rat {
	return []*big.Rat{big.NewRat(1, 1<<40), big.NewRat(-1, 1<<40), big.NewRat(7, 3), big.NewRat(-7, 3)}
}

// TestKkt: KKT points hold; with one number otherwise they hold just where the definition says so.
func TestKkt(t *testing.T) {
	still, no := 0, 0
	for _, k := range sample.Kkts() {
		checkHolds(t, "a KKT point", k.M, k.P, true)
		if len(k.M.Cols) == api.MaxCols {
			continue // at just some of its places, below
		}
		for _, p := range otherwise(k.P) {
			if checkLike(t, "one number otherwise", k.M, p) {
				still++
			} else {
				no++
			}
		}
	}
	if still < 30 || no < 300 {
		t.Errorf("%d points with one number otherwise hold and %d don't: too few are tried", still, no)
	}
}

// otherwise: the point with each number moved.
func otherwise(p api.Point) []api.Point {
	var out []api.Point
	for _, more := range steps() {
		for place := range p.X {
			out = append(out, api.Point{X: moved(p.X, place, more), Y: p.Y, Z: p.Z}, api.Point{X: p.X, Y: p.Y, Z: moved(p.Z, place, more)})
		}
		for place := range p.Y {
			out = append(out, api.Point{X: p.X, Y: moved(p.Y, place, more), Z: p.Z})
		}
	}
	return out
}

// TestDualMoved: a multiplier moved, with the reduced costs that then follow: what is asked is whether all of them may stand where they do.
func TestDualMoved(t *testing.T) {
	still, no := 0, 0
	for _, k := range sample.Kkts() {
		for place := range min(len(k.P.Y), 6) {
			for _, more := range steps() {
				p := api.Point{X: k.P.X, Y: moved(k.P.Y, place, more)}
				for _, z := range reducedOf(k.M, p.Y) {
					p.Z = append(p.Z, fromBig(z))
				}
				if checkLike(t, "another multiplier", k.M, p) {
					still++
				} else {
					no++
				}
			}
		}
	}
	if still < 10 || no < 50 {
		t.Errorf("%d points with another multiplier hold and %d don't: too few are tried", still, no)
	}
}

// TestModelMoved: a bound moved, made infinite or dropped to the other's number, a cost moved, a coefficient moved: of columns and of rows.
func TestModelMoved(t *testing.T) {
	still, no := 0, 0
	for _, k := range sample.Kkts() {
		for _, m := range othersOf(k.M) {
			if checkLike(t, "another model", m, k.P) {
				still++
			} else {
				no++
			}
		}
	}
	if still < 100 || no < 100 {
		t.Errorf("%d points hold of another model and %d don't: too few are tried", still, no)
	}
}

// othersOf: the model with one thing otherwise, at its first columns and rows and at the last ones.
func othersOf(m api.Model) []api.Model {
	var out []api.Model
	for place := range m.Cols {
		if place > 4 && place < len(m.Cols)-1 {
			continue
		}
		for _, b := range bounds(m.Cols[place].Lo, m.Cols[place].Hi) {
			other := m
			other.Cols = slices.Clone(m.Cols)
			other.Cols[place].Lo, other.Cols[place].Hi = b[0], b[1]
			out = append(out, other)
		}
		other := m
		other.Cols = slices.Clone(m.Cols)
		other.Cols[place].Cost = moved([]api.Rat{m.Cols[place].Cost}, 0, big.NewRat(1, 5))[0]
		out = append(out, other)
	}
	for place := range m.Rows {
		if place > 4 && place < len(m.Rows)-1 {
			continue
		}
		for _, b := range bounds(m.Rows[place].Lo, m.Rows[place].Hi) {
			other := m
			other.Rows = slices.Clone(m.Rows)
			other.Rows[place].Lo, other.Rows[place].Hi = b[0], b[1]
			out = append(out, other)
		}
		if len(m.Rows[place].Terms) > 0 {
			other := m
			other.Rows = slices.Clone(m.Rows)
			other.Rows[place].Terms = m.Rows[place].Terms[1:]
			out = append(out, other)
		}
	}
	return out
}

// bounds: others than these.
func bounds(lo, hi api.Ext) [][2]api.Ext {
	out := [][2]api.Ext{{sample.Low(), hi}, {lo, sample.High()}, {sample.Low(), sample.High()}}
	for _, more := range steps() {
		if lo.Inf == 0 {
			out = append(out, [2]api.Ext{{V: moved([]api.Rat{lo.V}, 0, more)[0]}, hi})
		}
		if hi.Inf == 0 {
			out = append(out, [2]api.Ext{lo, {V: moved([]api.Rat{hi.V}, 0, more)[0]}})
		}
	}
	return out
}

// TestOffBound: the least of x with x at a bound or off it, beside each multiplier: by a column, and by a row.
func TestOffBound(t *testing.T) {
	at, low, high := sample.At, sample.Low, sample.High
	for _, c := range []struct {
		v, w   int
		lo, hi api.Ext
		want   bool
	}{
		{1, 2, at(1), high(), true}, {1, -2, at(1), high(), false}, {1, 0, at(1), high(), true},
		{1, 2, at(0), high(), false}, {1, -2, at(0), high(), false}, {1, 0, at(0), high(), true},
		{1, 2, low(), at(1), false}, {1, -2, low(), at(1), true}, {1, 0, low(), at(1), true},
		{1, 2, low(), at(3), false}, {1, -2, low(), at(3), false}, {1, 0, low(), at(3), true},
		{1, 2, at(1), at(3), true}, {1, -2, at(1), at(3), false}, {1, 2, at(0), at(1), false}, {1, -2, at(0), at(1), true},
		{1, 2, at(1), at(1), true}, {1, -2, at(1), at(1), true}, {1, 0, at(1), at(1), true},
		{1, 2, low(), high(), false}, {1, -2, low(), high(), false}, {1, 0, low(), high(), true},
		{0, 2, low(), high(), false}, {0, -2, low(), high(), false}, {0, 2, low(), at(5), false}, {0, -2, at(-5), high(), false},
		{1, 2, at(1), at(0), false}, {1, -2, at(1), at(0), false}, {0, -2, at(1), at(0), false}, {0, 0, at(1), at(0), false},
		{1, 0, at(2), high(), false}, {1, 0, low(), at(0), false}, {1, 2, at(2), high(), false}, {1, -2, low(), at(0), false},
	} {
		byCol := api.Model{Offset: sample.Frac(5, 1), Cols: []api.Col{sample.Col("x", c.w, c.lo, c.hi)}}
		checkHolds(t, "a column", byCol, api.Point{X: nums(c.v), Z: nums(c.w)}, c.want)
		byRow := api.Model{Offset: sample.Frac(5, 1), Cols: []api.Col{sample.Col("x", c.w, low(), high())}, Rows: []api.Row{sample.Row("r", c.lo, c.hi, sample.Term(0, 1))}}
		checkHolds(t, "a row", byRow, api.Point{X: nums(c.v), Y: nums(c.w), Z: nums(0)}, c.want)
		checkHolds(t, "a row, with a Z that is not the reduced cost", byRow, api.Point{X: nums(c.v), Y: nums(c.w), Z: nums(1)}, false)
		if c.w != 0 {
			checkHolds(t, "a row, with no multiplier", byRow, api.Point{X: nums(c.v), Y: nums(0), Z: nums(0)}, false)
		}
	}
}

// TestLargestKkt: the first and the last number of each list of the largest one.
func TestLargestKkt(t *testing.T) {
	for _, k := range sample.Kkts() {
		if len(k.M.Cols) < api.MaxCols {
			continue
		}
		for _, place := range []int{0, 63} {
			for _, more := range steps() {
				checkLike(t, "X", k.M, api.Point{X: moved(k.P.X, place, more), Y: k.P.Y, Z: k.P.Z})
				checkLike(t, "Y", k.M, api.Point{X: k.P.X, Y: moved(k.P.Y, place, more), Z: k.P.Z})
				checkHolds(t, "Z", k.M, api.Point{X: k.P.X, Y: k.P.Y, Z: moved(k.P.Z, place, more)}, false)
			}
		}
		checkHolds(t, "a number of X too few", k.M, api.Point{X: k.P.X[:63], Y: k.P.Y, Z: k.P.Z}, false)
		checkHolds(t, "a number of Y too few", k.M, api.Point{X: k.P.X, Y: k.P.Y[:63], Z: k.P.Z}, false)
		checkHolds(t, "a number of Z too few", k.M, api.Point{X: k.P.X, Y: k.P.Y, Z: k.P.Z[:63]}, false)
	}
}

// TestLengths: each list too short, too long or nil: false, without an error.
func TestLengths(t *testing.T) {
	for _, k := range sample.Kkts() {
		zero := sample.Frac(0, 1)
		longer := func(x []api.Rat) []api.Rat { return append(slices.Clone(x), zero) }
		checkHolds(t, "X too long", k.M, api.Point{X: longer(k.P.X), Y: k.P.Y, Z: k.P.Z}, false)
		checkHolds(t, "Y too long", k.M, api.Point{X: k.P.X, Y: longer(k.P.Y), Z: k.P.Z}, false)
		checkHolds(t, "Z too long", k.M, api.Point{X: k.P.X, Y: k.P.Y, Z: longer(k.P.Z)}, false)
		checkHolds(t, "all too long", k.M, api.Point{X: longer(k.P.X), Y: longer(k.P.Y), Z: longer(k.P.Z)}, false)
		if n := len(k.P.X); n > 0 {
			checkHolds(t, "X too short", k.M, api.Point{X: k.P.X[:n-1], Y: k.P.Y, Z: k.P.Z}, false)
			checkHolds(t, "Z too short", k.M, api.Point{X: k.P.X, Y: k.P.Y, Z: k.P.Z[:n-1]}, false)
			checkHolds(t, "no X", k.M, api.Point{Y: k.P.Y, Z: k.P.Z}, false)
			checkHolds(t, "no Z", k.M, api.Point{X: k.P.X, Y: k.P.Y}, false)
			checkHolds(t, "nothing", k.M, api.Point{}, false)
		}
		if n := len(k.P.Y); n > 0 {
			checkHolds(t, "Y too short", k.M, api.Point{X: k.P.X, Y: k.P.Y[:n-1], Z: k.P.Z}, false)
			checkHolds(t, "no Y", k.M, api.Point{X: k.P.X, Z: k.P.Z}, false)
		}
	}
}

// TestForms: a number that is not in form, in each list: false, without an error. Some stand for the very number that is asked for.
func TestForms(t *testing.T) {
	for _, k := range sample.Kkts() {
		for i, list := range [][]api.Rat{k.P.X, k.P.Y, k.P.Z} {
			for place := range min(len(list), 3) {
				for _, bad := range append(sample.BadRats(), unform(list[place])...) {
					lists := [][]api.Rat{slices.Clone(k.P.X), slices.Clone(k.P.Y), slices.Clone(k.P.Z)}
					lists[i][place] = bad
					checkHolds(t, "not in form", k.M, api.Point{X: lists[0], Y: lists[1], Z: lists[2]}, false)
				}
			}
		}
	}
}

// unform: the same number, in ways that are not in form.
func unform(r api.Rat) []api.Rat {
	three := func(a []uint64) []uint64 { return limbs(new(big.Int).Mul(toInt(a), big.NewInt(3))) }
	return []api.Rat{
		{Neg: r.Neg, Num: append(slices.Clone(r.Num), 0), Den: r.Den},
		{Neg: r.Neg, Num: r.Num, Den: append(slices.Clone(r.Den), 0)},
		{Neg: r.Neg, Num: three(r.Num), Den: three(r.Den)},
	}
}
