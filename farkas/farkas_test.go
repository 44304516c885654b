package farkas_test

import (
	"math/big"
	"slices"
	"testing"

	"tableau/api"
	"tableau/farkas"
	"tableau/point"
	"tableau/sample"
)

func checkValid(t *testing.T, name string, m api.Model, c api.Cert, want bool) {
	t.Helper()
	if is, e := farkas.Valid(m, c); e != api.OK || is != want {
		t.Errorf("P12.1: Valid, %s: %v, %d, want %v: %v of %v", name, is, e, want, c, m)
	}
}

// checkLike: Valid says what the definition says, which is told.
func checkLike(t *testing.T, name string, m api.Model, c api.Cert) bool {
	t.Helper()
	want := validOf(m, c)
	checkValid(t, name, m, c, want)
	return want
}

// checkCombine holds Combine against the promise's words.
func checkCombine(t *testing.T, m api.Model, c api.Cert) {
	t.Helper()
	sums, bound := combineOf(m, c)
	var want []api.Rat
	for _, a := range sums {
		want = append(want, fromBig(a))
	}
	left, right, e := farkas.Combine(m, c)
	if e != api.OK || !sameRats(left, want) || !sameRat(right, fromBig(bound)) {
		t.Errorf("P12.2: Combine of %v of %v = %v, %v, %d, want %v, %v", c, m, left, right, e, want, bound)
	}
}

// one: x between these, and x again in a row between those.
func one(lo, hi, rowLo, rowHi api.Ext) api.Model {
	return api.Model{Offset: sample.Frac(-4, 1), Cols: []api.Col{sample.Col("x", 2, lo, hi)}, Rows: []api.Row{sample.Row("r", rowLo, rowHi, sample.Term(0, 1))}}
}

// four: one multiplier of each bound of such a model.
func four(rowLo, rowHi, colLo, colHi int) api.Cert {
	return api.Cert{RowLo: nums(rowLo), RowHi: nums(rowHi), ColLo: nums(colLo), ColHi: nums(colHi)}
}

// TestExamples: those of the chapter, and those of the document that tell certificates.
func TestExamples(t *testing.T) {
	m := one(sample.At(0), sample.At(1), sample.At(2), sample.High())
	checkValid(t, "example 1", m, four(1, 0, 0, 1), true)
	checkValid(t, "example 1 with RowLo 2", m, four(2, 0, 0, 1), false)
	left, right, e := farkas.Combine(m, four(2, 0, 0, 1))
	if e != api.OK || !sameRats(left, nums(1)) || !sameRat(right, sample.Frac(3, 1)) {
		t.Errorf("P12.2: Combine of example 1 with RowLo 2: %v, %v, %d", left, right, e)
	}
	crossed := api.Model{Offset: sample.Frac(0, 1), Cols: []api.Col{sample.Col("x", 0, sample.At(2), sample.At(1))}}
	c, e := farkas.Crossing(crossed)
	if e != api.OK || !sameCert(c, api.Cert{ColLo: nums(1), ColHi: nums(1)}) {
		t.Errorf("P12.3: Crossing of example 2: %v, %d", c, e)
	}
	checkValid(t, "the document's example 3", crossed, c, true)
	empty := api.Model{Offset: sample.Frac(0, 1), Rows: []api.Row{sample.Row("r", sample.At(1), sample.At(2))}}
	checkValid(t, "the document's example 8", empty, api.Cert{RowLo: nums(1), RowHi: nums(0)}, true)
	checkValid(t, "the other side of it", empty, api.Cert{RowLo: nums(0), RowHi: nums(1)}, false)
}

// TestSides: multipliers of each side, of both, of infinite bounds, and of either sign.
func TestSides(t *testing.T) {
	at, low, high := sample.At, sample.Low, sample.High
	for _, c := range []struct {
		name string
		m    api.Model
		c    api.Cert
		want bool
	}{
		{"Lo of the row, Hi of the column", one(low(), at(1), at(2), high()), four(1, 0, 0, 1), true},
		{"Hi of the row, Lo of the column", one(at(2), high(), low(), at(1)), four(0, 1, 1, 0), true},
		{"a fraction of a difference", one(at(2), high(), low(), sample.AtFrac(5999, 3000)), four(0, 7, 7, 0), true},
		{"touching", one(at(2), high(), low(), at(2)), four(0, 1, 1, 0), false},
		{"apart", one(at(1), high(), low(), at(2)), four(0, 1, 1, 0), false},
		{"coefficients left", one(low(), at(1), at(2), high()), four(2, 0, 0, 1), false},
		{"coefficients below 0 left", one(low(), at(1), at(9), high()), four(1, 0, 0, 2), false},
		{"all noughts", one(low(), at(1), at(2), high()), four(0, 0, 0, 0), false},
		{"below 0", one(at(1), high(), low(), at(2)), four(0, -1, -1, 0), false},
		{"below 0, on the other sides", one(low(), at(2), at(1), high()), four(-1, 0, 0, -1), false},
		{"below 0 beside one that makes it up", one(low(), at(1), at(2), at(2)), four(1, 0, 0, 1), true},
		{"below 0 on one side of a row", one(low(), at(1), at(2), at(2)), four(0, -1, 0, 1), false},
		{"below 0 on one side of a column", one(at(1), at(1), at(2), high()), four(1, 0, -1, 0), false},
		{"an infinite Lo of the row", one(at(-1), at(1), low(), at(-3)), four(1, 2, 1, 0), false},
		{"an infinite Hi of the row", one(at(-1), at(1), at(3), high()), four(2, 1, 0, 1), false},
		{"an infinite Lo of the column", one(low(), at(1), at(3), at(4)), four(1, 0, 1, 2), false},
		{"an infinite Hi of the column", one(at(5), high(), at(1), at(2)), four(0, 1, 2, 1), false},
		{"both sides of the row", one(at(9), at(9), at(3), at(2)), four(4, 4, 0, 0), true},
		{"both sides of the column", one(at(3), at(2), low(), high()), four(0, 0, 4, 4), true},
		{"both sides of both", one(at(0), at(1), at(5), at(6)), four(3, 1, 2, 4), true},
		{"both sides of both, too far apart", one(at(0), at(1), at(5), at(20)), four(3, 1, 2, 4), false},
		{"both sides of both, at 0", one(at(0), at(1), at(5), at(11)), four(3, 1, 2, 4), false},
		{"touching sides", one(low(), high(), at(2), at(2)), four(1, 1, 0, 0), false},
		{"sides that are not crossed", one(low(), high(), at(2), at(3)), four(1, 1, 0, 0), false},
		{"crossed sides, the wrong way", one(at(3), at(2), at(0), at(0)), four(0, 0, -1, -1), false},
	} {
		checkValid(t, c.name, c.m, c.c, c.want)
		checkLike(t, c.name, c.m, c.c)
	}
}

// moved: the list with this much more at this place.
func moved(x []api.Rat, place int, more *big.Rat) []api.Rat {
	out := slices.Clone(x)
	out[place] = fromBig(new(big.Rat).Add(toBig(x[place]), more))
	return out
}

// steps: what a number is moved by.
func steps() []*big.Rat {
	return []*big.Rat{big.NewRat(1, 1<<40), big.NewRat(-1, 1<<40), big.NewRat(7, 3), big.NewRat(-7, 3)}
}

// some: is the place one of the first few, or the last?
func some(place, n int) bool { return place < 5 || place == n-1 }

// TestOtherwise: certificates are valid; with one number otherwise they are just where the definition says so.
func TestOtherwise(t *testing.T) {
	no := 0
	for _, k := range sample.Certs() {
		checkValid(t, "a certificate", k.M, k.C, true)
		for i, list := range lists(&k.C) {
			for place := range *list {
				if !some(place, len(*list)) {
					continue
				}
				for _, more := range steps() {
					c := cloned(k.C)
					*lists(&c)[i] = moved(*list, place, more)
					if !checkLike(t, "one number otherwise", k.M, c) {
						no++
					}
				}
			}
		}
	}
	if no < 500 {
		t.Errorf("%d certificates with one number otherwise are none: too few are tried", no)
	}
}

// TestBothOtherwise: both sides of a row or of a column moved by as much: the coefficients stay, what they show and the signs may not.
func TestBothOtherwise(t *testing.T) {
	still, no := 0, 0
	for _, k := range sample.Certs() {
		for _, i := range []int{0, 2} {
			for place := range *lists(&k.C)[i] {
				if !some(place, len(*lists(&k.C)[i])) {
					continue
				}
				for _, more := range steps() {
					c := cloned(k.C)
					*lists(&c)[i] = moved(*lists(&c)[i], place, more)
					*lists(&c)[i+1] = moved(*lists(&c)[i+1], place, more)
					if checkLike(t, "both sides otherwise", k.M, c) {
						still++
					} else {
						no++
					}
				}
			}
		}
	}
	if still < 50 || no < 100 {
		t.Errorf("%d certificates with both sides otherwise are some and %d none: too few are tried", still, no)
	}
}

// TestScaled: a multiple above 0 of a certificate is one; of 0 or below it is none.
func TestScaled(t *testing.T) {
	for _, k := range sample.Certs() {
		for _, f := range []*big.Rat{big.NewRat(3, 1), big.NewRat(1, 1<<50), new(big.Rat), big.NewRat(-1, 1)} {
			c := cloned(k.C)
			for _, list := range lists(&c) {
				for place, w := range *list {
					(*list)[place] = fromBig(new(big.Rat).Mul(toBig(w), f))
				}
			}
			checkValid(t, "a multiple", k.M, c, f.Sign() > 0)
		}
	}
}

// TestModelOtherwise: a bound moved or made infinite, a term left out: the certificate may show no more.
func TestModelOtherwise(t *testing.T) {
	still, no := 0, 0
	for _, k := range sample.Certs() {
		for _, m := range othersOf(k.M) {
			if checkLike(t, "another model", m, k.C) {
				still++
			} else {
				no++
			}
		}
	}
	if still < 200 || no < 200 {
		t.Errorf("%d certificates are some of another model and %d none: too few are tried", still, no)
	}
}

// othersOf: the model with one thing otherwise, at its first columns and rows and at the last ones.
func othersOf(m api.Model) []api.Model {
	var out []api.Model
	for place, c := range m.Cols {
		for _, b := range bounds(c.Lo, c.Hi) {
			other := m
			other.Cols = slices.Clone(m.Cols)
			other.Cols[place].Lo, other.Cols[place].Hi = b[0], b[1]
			if some(place, len(m.Cols)) {
				out = append(out, other)
			}
		}
	}
	for place, r := range m.Rows {
		if !some(place, len(m.Rows)) {
			continue
		}
		for _, b := range bounds(r.Lo, r.Hi) {
			other := m
			other.Rows = slices.Clone(m.Rows)
			other.Rows[place].Lo, other.Rows[place].Hi = b[0], b[1]
			out = append(out, other)
		}
		if len(r.Terms) > 0 {
			other := m
			other.Rows = slices.Clone(m.Rows)
			other.Rows[place].Terms = r.Terms[1:]
			out = append(out, other)
		}
	}
	return out
}

// bounds: others than these.
func bounds(lo, hi api.Ext) [][2]api.Ext {
	out := [][2]api.Ext{{sample.Low(), hi}, {lo, sample.High()}, {sample.Low(), sample.High()}}
	for _, more := range append(steps(), big.NewRat(-1<<40, 1), big.NewRat(1<<40, 1)) {
		if lo.Inf == 0 {
			out = append(out, [2]api.Ext{{V: moved([]api.Rat{lo.V}, 0, more)[0]}, hi})
		}
		if hi.Inf == 0 {
			out = append(out, [2]api.Ext{lo, {V: moved([]api.Rat{hi.V}, 0, more)[0]}})
		}
	}
	return out
}

// TestNoPoint: a model with a certificate has no point: numbers at its bounds, at those of its rows, and of all kinds.
func TestNoPoint(t *testing.T) {
	for _, k := range sample.Certs() {
		for _, x := range tries(k.M) {
			if is, e := point.Feasible(k.M, x); is || e != api.OK {
				t.Errorf("P12.1: %v has a certificate, and the point %v: %v, %d", k.M, x, is, e)
			}
		}
	}
}

// tries: numbers for the columns: noughts, lower and upper bounds, and such as make a row's activity its bound.
func tries(m api.Model) [][]api.Rat {
	lows, highs := []api.Rat{}, []api.Rat{}
	for _, c := range m.Cols {
		lows, highs = append(lows, c.Lo.V), append(highs, c.Hi.V)
	}
	out := [][]api.Rat{filled(len(m.Cols), sample.Frac(0, 1)), filled(len(m.Cols), sample.Frac(-1, 2)), lows, highs}
	for _, r := range m.Rows {
		if len(r.Terms) == 0 {
			continue
		}
		term := r.Terms[len(r.Terms)-1]
		for _, b := range []api.Ext{r.Lo, r.Hi} {
			x := slices.Clone(lows)
			rest := toBig(b.V)
			for _, t := range r.Terms[:len(r.Terms)-1] {
				rest.Sub(rest, new(big.Rat).Mul(toBig(t.A), toBig(x[t.Col])))
			}
			x[term.Col] = fromBig(rest.Quo(rest, toBig(term.A)))
			out = append(out, x)
		}
	}
	return out
}

// TestCombine: models of all kinds with multipliers of all kinds, those of infinite bounds 0; and certificates.
func TestCombine(t *testing.T) {
	for _, m := range sample.Models() {
		for _, c := range multipliers(m) {
			checkCombine(t, m, inward(m, c))
		}
	}
	for _, k := range sample.Certs() {
		checkCombine(t, k.M, k.C)
		left, right, e := farkas.Combine(k.M, k.C)
		if e != api.OK || !sameRats(left, filled(len(k.M.Cols), sample.Frac(0, 1))) || toBig(right).Sign() <= 0 {
			t.Errorf("P12.2: Combine of a certificate: %v, %v, %d", left, right, e)
		}
	}
}

// TestCombineNumbers: small ones that are told here.
func TestCombineNumbers(t *testing.T) {
	at := sample.At
	m := api.Model{Offset: sample.Frac(9, 1), Cols: []api.Col{sample.Col("x", 5, at(2), at(3)), sample.Col("y", 5, at(-5), at(7))}, Rows: []api.Row{
		sample.Row("r", at(11), at(13), sample.Term(0, 17)),
		sample.Row("s", at(-1), at(1), sample.Term(0, -1), sample.Term(1, 19)),
		sample.Row("u", at(100), at(1000)),
	}}
	for _, c := range []struct {
		c           api.Cert
		x, y, right int
	}{
		{api.Cert{RowLo: nums(1, 0, 0), RowHi: nums(0, 0, 0), ColLo: nums(0, 0), ColHi: nums(0, 0)}, 17, 0, 11},
		{api.Cert{RowLo: nums(0, 0, 0), RowHi: nums(1, 0, 0), ColLo: nums(0, 0), ColHi: nums(0, 0)}, -17, 0, -13},
		{api.Cert{RowLo: nums(0, 2, 0), RowHi: nums(0, 5, 0), ColLo: nums(0, 0), ColHi: nums(0, 0)}, 3, -57, -7},
		{api.Cert{RowLo: nums(0, 0, 1), RowHi: nums(0, 0, 1), ColLo: nums(0, 0), ColHi: nums(0, 0)}, 0, 0, -900},
		{api.Cert{RowLo: nums(0, 0, 0), RowHi: nums(0, 0, 0), ColLo: nums(1, 0), ColHi: nums(0, 1)}, 1, -1, -5},
		{api.Cert{RowLo: nums(0, 0, 0), RowHi: nums(0, 0, 0), ColLo: nums(0, 3), ColHi: nums(4, 0)}, -4, 3, -27},
		{api.Cert{RowLo: nums(-1, 0, 0), RowHi: nums(0, -2, 0), ColLo: nums(-3, 0), ColHi: nums(0, -4)}, -22, 42, 13},
		{api.Cert{RowLo: nums(0, 0, 0), RowHi: nums(0, 0, 0), ColLo: nums(0, 0), ColHi: nums(0, 0)}, 0, 0, 0},
	} {
		left, right, e := farkas.Combine(m, c.c)
		if e != api.OK || !sameRats(left, nums(c.x, c.y)) || !sameRat(right, sample.Frac(c.right, 1)) {
			t.Errorf("P12.2: Combine of %v = %v, %v, %d, want %d, %d, %d", c.c, left, right, e, c.x, c.y, c.right)
		}
	}
}

// TestCombineBelow: where no multiplier is below 0, no point has less than the second as the sum of the first times its numbers.
func TestCombineBelow(t *testing.T) {
	tried := 0
	for _, k := range sample.Kkts() {
		for _, c := range multipliers(k.M) {
			c = inward(k.M, c)
			for _, list := range lists(&c) {
				for place := range *list {
					(*list)[place].Neg = false
				}
			}
			left, right, e := farkas.Combine(k.M, c)
			sum := new(big.Rat)
			for col, a := range left {
				sum.Add(sum, new(big.Rat).Mul(toBig(a), toBig(k.P.X[col])))
			}
			if e != api.OK || sum.Cmp(toBig(right)) < 0 {
				t.Errorf("P12.2: at the point %v of %v the combination is %v, below %v, %d", k.P.X, k.M, sum, right, e)
			}
			tried++
		}
	}
	if tried < 500 {
		t.Errorf("only %d combinations are tried", tried)
	}
}

// crossingOf: by the words of the promise.
func crossingOf(m api.Model) (api.Cert, bool) {
	crossed := func(lo, hi api.Ext) bool { return lo.Inf == 0 && hi.Inf == 0 && toBig(lo.V).Cmp(toBig(hi.V)) > 0 }
	c := even(m, sample.Frac(0, 1))
	for j, col := range m.Cols {
		if crossed(col.Lo, col.Hi) {
			c.ColLo[j], c.ColHi[j] = sample.Frac(1, 1), sample.Frac(1, 1)
			return c, true
		}
	}
	for i, r := range m.Rows {
		if crossed(r.Lo, r.Hi) {
			c.RowLo[i], c.RowHi[i] = sample.Frac(1, 1), sample.Frac(1, 1)
			return c, true
		}
	}
	return c, false
}

func checkCrossing(t *testing.T, m api.Model) bool {
	t.Helper()
	want, there := crossingOf(m)
	c, e := farkas.Crossing(m)
	if there {
		if e != api.OK || !sameCert(c, want) {
			t.Errorf("P12.3: Crossing of %v = %v, %d, want %v", m, c, e, want)
		}
		checkValid(t, "what Crossing answers", m, c, true)
	} else if e != api.ErrNone || !isNone(c) {
		t.Errorf("P12.3: Crossing of %v = %v, %d, where none are crossed", m, c, e)
	}
	return there
}

func isNone(c api.Cert) bool {
	return c.RowLo == nil && c.RowHi == nil && c.ColLo == nil && c.ColHi == nil
}

// TestCrossing: bounds of columns and of rows that are crossed, touch, are apart or infinite: those of each alone, and all of them together.
func TestCrossing(t *testing.T) {
	at, low, high := sample.At, sample.Low, sample.High
	pairs := [][2]api.Ext{{at(2), at(1)}, {at(1), at(1)}, {at(0), at(1)}, {low(), at(-1)}, {at(1), high()}, {low(), high()}, {at(0), sample.AtFrac(-1, 1000)}, {sample.AtFrac(1, 2), sample.AtFrac(1, 3)}}
	some, none := 0, 0
	for _, a := range pairs {
		for _, b := range pairs {
			for _, r := range pairs {
				m := api.Model{Offset: sample.Frac(0, 1), Cols: []api.Col{sample.Col("x", 1, a[0], a[1]), sample.Col("y", 1, b[0], b[1])}, Rows: []api.Row{
					sample.Row("r", b[0], b[1], sample.Term(0, 1)), sample.Row("s", r[0], r[1], sample.Term(0, 1), sample.Term(1, -3)), sample.Row("u", a[0], a[1]), sample.Row("v", at(5), at(4))}}
				rowsAlone := m
				rowsAlone.Cols = []api.Col{sample.Col("x", 1, low(), high()), sample.Col("y", 1, at(0), at(0))}
				fewer := rowsAlone
				fewer.Rows = m.Rows[:3]
				colsAlone := m
				colsAlone.Rows = nil
				for _, m := range []api.Model{m, rowsAlone, fewer, colsAlone} {
					if checkCrossing(t, m) {
						some++
					} else {
						none++
					}
				}
			}
		}
	}
	if some < 500 || none < 300 {
		t.Errorf("%d models have crossed bounds and %d none: too few are tried", some, none)
	}
}

// TestCrossingModels: models of all kinds, and the first and the last bounds of the largest.
func TestCrossingModels(t *testing.T) {
	for _, m := range sample.Models() {
		checkCrossing(t, m)
	}
	for _, k := range sample.Certs() {
		checkCrossing(t, k.M)
	}
	for _, place := range []int{0, 1, 63} {
		m := sample.Full()
		m.Rows[place].Lo, m.Rows[place].Hi = sample.At(3), sample.At(2)
		if !checkCrossing(t, m) {
			t.Errorf("row %d is not crossed", place)
		}
		m.Cols[place].Lo, m.Cols[place].Hi = sample.At(3), sample.At(2)
		if !checkCrossing(t, m) {
			t.Errorf("column %d is not crossed", place)
		}
	}
}
