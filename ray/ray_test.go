package ray_test

import (
	"math/big"
	"slices"
	"testing"

	"tableau/api"
	"tableau/point"
	"tableau/ray"
	"tableau/sample"
)

func checkRecedes(t *testing.T, name string, m api.Model, d []api.Rat, want bool) {
	t.Helper()
	if is, e := ray.Recedes(m, d); e != api.OK || is != want {
		t.Errorf("P13.1: Recedes, %s: %v, %d, want %v: %v of %v", name, is, e, want, d, m)
	}
}

func checkValid(t *testing.T, name string, m api.Model, r api.Ray, want bool) {
	t.Helper()
	if is, e := ray.Valid(m, r); e != api.OK || is != want {
		t.Errorf("P13.1: Valid, %s: %v, %d, want %v: %v of %v", name, is, e, want, r, m)
	}
}

// checkLike: Valid and Recedes say what the definitions say; that of a ray is told.
func checkLike(t *testing.T, name string, m api.Model, r api.Ray) bool {
	t.Helper()
	want := validOf(m, r)
	checkValid(t, name, m, r, want)
	checkRecedes(t, name, m, r.D, recedesOf(m, r.D))
	return want
}

func checkAlong(t *testing.T, name string, r api.Ray, by api.Rat) {
	t.Helper()
	var want []api.Rat
	for i, x := range r.X {
		want = append(want, fromBig(new(big.Rat).Add(toBig(x), new(big.Rat).Mul(toBig(by), toBig(r.D[i])))))
	}
	if x, e := ray.Along(r, by); e != api.OK || !sameRats(x, want) {
		t.Errorf("P13.2: Along, %s: %v by %v = %v, %d, want %v", name, r, by, x, e, want)
	}
}

// alone: the least of cost times x with x between these.
func alone(cost int, lo, hi api.Ext) api.Model {
	return api.Model{Offset: sample.Frac(8, 1), Cols: []api.Col{sample.Col("x", cost, lo, hi)}}
}

// inRow: the same, with the bounds on a row of as many x.
func inRow(cost, a int, lo, hi api.Ext) api.Model {
	m := alone(cost, sample.Low(), sample.High())
	m.Rows = []api.Row{sample.Row("r", lo, hi, sample.Term(0, a))}
	return m
}

// TestExamples: those of the chapter, and the document's with a ray.
func TestExamples(t *testing.T) {
	checkValid(t, "x free", alone(1, sample.Low(), sample.High()), api.Ray{X: nums(0), D: nums(-1)}, true)
	checkValid(t, "x at least 0", alone(1, sample.At(0), sample.High()), api.Ray{X: nums(0), D: nums(-1)}, false)
	checkRecedes(t, "x at least 0", alone(1, sample.At(0), sample.High()), nums(-1), false)
	if x, e := ray.Along(api.Ray{X: nums(1), D: nums(2)}, sample.Frac(3, 1)); e != api.OK || !sameRats(x, nums(7)) {
		t.Errorf("P13.2: Along = %v, %d, want 7", x, e)
	}
}

// TestSides: a direction of 0, above and below it beside each kind of bounds: of a column, and of a row by its activity.
func TestSides(t *testing.T) {
	at, low, high := sample.At, sample.Low, sample.High
	for _, c := range []struct {
		lo, hi          api.Ext
		down, up, still bool
	}{
		{low(), high(), true, true, true},
		{at(-3), high(), false, true, true}, {at(0), high(), false, true, true}, {at(3), high(), false, true, true},
		{low(), at(-3), true, false, true}, {low(), at(0), true, false, true}, {low(), at(3), true, false, true},
		{at(-3), at(3), false, false, true}, {at(2), at(2), false, false, true}, {at(3), at(-3), false, false, true},
	} {
		for d, want := range []bool{c.down, c.still, c.up} {
			checkRecedes(t, "a column", alone(1, c.lo, c.hi), nums(d-1), want)
			checkRecedes(t, "a row", inRow(1, 1, c.lo, c.hi), nums(d-1), want)
			checkRecedes(t, "a row of 3", inRow(1, 3, c.lo, c.hi), nums(7*(d-1)), want)
			checkRecedes(t, "a row of -2", inRow(1, -2, c.lo, c.hi), nums(1-d), want)
		}
	}
}

// TestCosts: costs along a direction below 0 make a ray, those of 0 and above none; the offset makes no difference.
func TestCosts(t *testing.T) {
	for _, offset := range []int{-9, 0, 9} {
		for cost := -2; cost <= 2; cost++ {
			for d := -2; d <= 2; d++ {
				m := alone(cost, sample.Low(), sample.High())
				m.Offset = sample.Frac(offset, 1)
				checkValid(t, "one column", m, api.Ray{X: nums(5), D: nums(d)}, cost*d < 0)
				m.Cols = append(m.Cols, sample.Col("y", 1, sample.Low(), sample.High()))
				checkValid(t, "two columns", m, api.Ray{X: nums(5, 5), D: nums(d, 1)}, cost*d+1 < 0)
				checkRecedes(t, "two columns", m, nums(d, 1), true)
			}
		}
	}
	tiny := alone(0, sample.Low(), sample.High())
	tiny.Cols[0].Cost = api.Rat{Num: []uint64{1}, Den: []uint64{0, 0, 1}}
	checkValid(t, "a cost of next to nothing", tiny, api.Ray{X: nums(0), D: nums(-1)}, true)
}

// TestPoints: the point must be one: at its bounds, within and beyond them, of columns and of rows.
func TestPoints(t *testing.T) {
	m := alone(-1, sample.At(2), sample.High())
	m.Cols = append(m.Cols, sample.Col("y", 0, sample.At(0), sample.At(4)))
	m.Rows = []api.Row{sample.Row("r", sample.At(5), sample.High(), sample.Term(0, 1), sample.Term(1, 1))}
	for _, c := range []struct {
		x, y int
		want bool
	}{{2, 3, true}, {2, 4, true}, {5, 0, true}, {1, 4, false}, {2, 5, false}, {6, -1, false}, {2, 2, false}, {4, 0, false}, {100, 4, true}} {
		checkValid(t, "a point", m, api.Ray{X: nums(c.x, c.y), D: nums(1, 0)}, c.want)
		checkValid(t, "a direction that does not recede", m, api.Ray{X: nums(c.x, c.y), D: nums(1, -1)}, false)
		checkValid(t, "a direction of no worth", m, api.Ray{X: nums(c.x, c.y), D: nums(0, 0)}, false)
	}
	crossed := alone(-1, sample.At(2), sample.High())
	crossed.Cols = append(crossed.Cols, sample.Col("y", 0, sample.At(1), sample.At(0)))
	for y := range 3 {
		checkValid(t, "crossed bounds", crossed, api.Ray{X: nums(5, y), D: nums(1, 0)}, false)
		checkRecedes(t, "crossed bounds", crossed, nums(1, 0), true)
	}
}

// TestModels: models of all kinds with points and directions of all kinds.
func TestModels(t *testing.T) {
	yes, no := 0, 0
	for _, m := range sample.Models() {
		for _, d := range directions(len(m.Cols)) {
			checkLike(t, "a model", m, api.Ray{X: filled(len(m.Cols), sample.Frac(0, 1)), D: d})
			if recedesOf(m, d) {
				yes++
			} else {
				no++
			}
		}
	}
	if yes < 50 || no < 100 {
		t.Errorf("%d directions recede and %d don't: too few are tried", yes, no)
	}
	nothing := api.Model{Offset: sample.Frac(-1, 1)}
	checkRecedes(t, "no columns", nothing, nil, true)
	checkValid(t, "no columns", nothing, api.Ray{}, false)
}

// moved: the list with this much more at this place.
func moved(x []api.Rat, place int, more *big.Rat) []api.Rat {
	out := slices.Clone(x)
	out[place] = fromBig(new(big.Rat).Add(toBig(x[place]), more))
	return out
}

// steps: what a number is moved by.
func steps() []*big.Rat {
	return []*big.Rat{big.NewRat(1, 1<<40), big.NewRat(-1, 1<<40), big.NewRat(7, 3), big.NewRat(-7, 3)}
}

// some: is the place one of the first few, or the last?
func some(place, n int) bool { return place < 5 || place == n-1 }

// TestOtherwise: rays are valid; with one number otherwise, of the point or of the direction, they are just where the definition says so.
func TestOtherwise(t *testing.T) {
	yes, no := [2]int{}, [2]int{}
	for _, k := range sample.Rays() {
		checkValid(t, "a ray", k.M, k.R, true)
		checkRecedes(t, "a ray", k.M, k.R.D, true)
		for place := range k.R.X {
			if !some(place, len(k.R.X)) {
				continue
			}
			for _, more := range steps() {
				for i, r := range []api.Ray{{X: moved(k.R.X, place, more), D: k.R.D}, {X: k.R.X, D: moved(k.R.D, place, more)}} {
					if checkLike(t, "one number otherwise", k.M, r) {
						yes[i]++
					} else {
						no[i]++
					}
				}
			}
		}
		checkLike(t, "the other way", k.M, api.Ray{X: k.R.X, D: turned(k.R.D)})
		checkValid(t, "nowhere", k.M, api.Ray{X: k.R.X, D: filled(len(k.R.X), sample.Frac(0, 1))}, false)
	}
	if min(yes[0], yes[1]) < 50 || min(no[0], no[1]) < 50 {
		t.Errorf("of rays with one number otherwise %v are some and %v none: too few are tried", yes, no)
	}
}

// turned: each number's negative.
func turned(x []api.Rat) []api.Rat {
	var out []api.Rat
	for _, r := range x {
		out = append(out, fromBig(new(big.Rat).Neg(toBig(r))))
	}
	return out
}

// TestModelOtherwise: a bound moved, made infinite or finite, costs turned or left out: the ray may be one no more.
func TestModelOtherwise(t *testing.T) {
	yes, no := 0, 0
	for _, k := range sample.Rays() {
		for _, m := range othersOf(k.M) {
			if checkLike(t, "another model", m, k.R) {
				yes++
			} else {
				no++
			}
		}
	}
	if yes < 200 || no < 200 {
		t.Errorf("%d rays are some of another model and %d none: too few are tried", yes, no)
	}
}

// othersOf: the model with one thing otherwise, at its first columns and rows and at the last ones.
func othersOf(m api.Model) []api.Model {
	var out []api.Model
	for place, c := range m.Cols {
		if !some(place, len(m.Cols)) {
			continue
		}
		for _, b := range bounds(c.Lo, c.Hi) {
			other := m
			other.Cols = slices.Clone(m.Cols)
			other.Cols[place].Lo, other.Cols[place].Hi = b[0], b[1]
			out = append(out, other)
		}
		for _, cost := range []api.Rat{sample.Frac(0, 1), turned([]api.Rat{c.Cost})[0], sample.Frac(9, 1), sample.Frac(-9, 1)} {
			other := m
			other.Cols = slices.Clone(m.Cols)
			other.Cols[place].Cost = cost
			out = append(out, other)
		}
	}
	for place, r := range m.Rows {
		if !some(place, len(m.Rows)) {
			continue
		}
		for _, b := range bounds(r.Lo, r.Hi) {
			other := m
			other.Rows = slices.Clone(m.Rows)
			other.Rows[place].Lo, other.Rows[place].Hi = b[0], b[1]
			out = append(out, other)
		}
		if len(r.Terms) > 0 {
			other := m
			other.Rows = slices.Clone(m.Rows)
			other.Rows[place].Terms = r.Terms[1:]
			out = append(out, other)
		}
	}
	return out
}

// bounds: others than these.
func bounds(lo, hi api.Ext) [][2]api.Ext {
	out := [][2]api.Ext{{sample.Low(), hi}, {lo, sample.High()}, {sample.Low(), sample.High()}, {sample.At(-999), hi}, {lo, sample.At(999)}}
	for _, more := range steps() {
		if lo.Inf == 0 {
			out = append(out, [2]api.Ext{{V: moved([]api.Rat{lo.V}, 0, more)[0]}, hi})
		}
		if hi.Inf == 0 {
			out = append(out, [2]api.Ext{lo, {V: moved([]api.Rat{hi.V}, 0, more)[0]}})
		}
	}
	return out
}

// TestEndless: of a ray and t from 0 on Along answers points, whose values fall.
func TestEndless(t *testing.T) {
	far := api.Rat{Num: []uint64{0, 0, 1}, Den: []uint64{1}}
	for _, k := range sample.Rays() {
		var last *big.Rat
		for _, by := range []api.Rat{sample.Frac(0, 1), sample.Frac(1, 1000), sample.Frac(1, 2), sample.Frac(1, 1), sample.Frac(77, 3), far} {
			x, e := ray.Along(k.R, by)
			if is, f := point.Feasible(k.M, x); e != api.OK || f != api.OK || !is {
				t.Errorf("P13.2: Along %v by %v is no point: %v, %d, %d", k.R, by, is, e, f)
			}
			v, f := point.Value(k.M, x)
			if f != api.OK || last != nil && last.Cmp(toBig(v)) <= 0 {
				t.Errorf("P13.2: Along %v by %v: the value %v does not fall, %d", k.R, by, v, f)
				continue
			}
			last = toBig(v)
		}
	}
}

// TestAlong: lists of all kinds by numbers of all kinds, and of no numbers at all.
func TestAlong(t *testing.T) {
	times := append(sample.Rats(), sample.Frac(-5, 7))
	for n := range 5 {
		for _, x := range directions(n) {
			for _, d := range directions(n) {
				for _, by := range times {
					checkAlong(t, "all kinds", api.Ray{X: x, D: d}, by)
				}
			}
		}
	}
	for _, by := range times {
		if x, e := ray.Along(api.Ray{}, by); e != api.OK || len(x) != 0 {
			t.Errorf("P13.2: Along nothing: %v, %d", x, e)
		}
		checkAlong(t, "empty lists", api.Ray{X: []api.Rat{}}, by)
		checkAlong(t, "64 numbers", api.Ray{X: filled(64, sample.Frac(2, 3)), D: filled(64, sample.Frac(1, 7))}, by)
		checkAlong(t, "100 numbers", api.Ray{X: filled(100, sample.Frac(2, 3)), D: filled(100, sample.Frac(-1, 7))}, by)
	}
	for _, c := range []struct {
		n, d int
		want []api.Rat
	}{{0, 1, nums(1, -2)}, {1, 1, nums(4, -7)}, {-1, 1, nums(-2, 3)}, {1, 3, []api.Rat{sample.Frac(2, 1), sample.Frac(-11, 3)}}} {
		x, e := ray.Along(api.Ray{X: nums(1, -2), D: nums(3, -5)}, sample.Frac(c.n, c.d))
		if e != api.OK || !sameRats(x, c.want) {
			t.Errorf("P13.2: Along by %d/%d = %v, %d, want %v", c.n, c.d, x, e, c.want)
		}
	}
}
