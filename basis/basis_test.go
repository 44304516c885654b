package basis_test

import (
	"math"
	"testing"

	"tableau/api"
	"tableau/basis"
	"tableau/sample"
)

func isNone(p api.Point) bool { return p.X == nil && p.Y == nil && p.Z == nil }

// checkValid: is b a basis of m, as is wanted? If not, it has no point, and none makes it an optimal one.
func checkValid(t *testing.T, name string, m api.Model, b api.Basis, want bool) {
	t.Helper()
	if is, e := basis.Valid(m, b); e != api.OK || is != want {
		t.Errorf("P14.1: Valid, %s: %v, %d, want %v: %v of %v", name, is, e, want, b, m)
	}
	p, e := basis.Point(m, b)
	if want && e != api.OK || !want && (e != api.ErrPoint || !isNone(p)) {
		t.Errorf("P14.1: Point, %s: %v, %d: %v of %v", name, p, e, b, m)
	}
	if want {
		return
	}
	if is, e := basis.Optimal(m, b, p); is || e != api.OK {
		t.Errorf("P14.2: Optimal, %s: %v, %d: %v of %v", name, is, e, b, m)
	}
}

func checkPoint(t *testing.T, name string, m api.Model, b api.Basis, want api.Point) {
	t.Helper()
	if p, e := basis.Point(m, b); e != api.OK || !samePoint(p, want) {
		t.Errorf("P14.1: Point, %s: %v, %d, want %v: %v of %v", name, p, e, want, b, m)
	}
}

func checkOptimal(t *testing.T, name string, m api.Model, b api.Basis, p api.Point, want bool) {
	t.Helper()
	if is, e := basis.Optimal(m, b, p); e != api.OK || is != want {
		t.Errorf("P14.2: Optimal, %s: %v, %d, want %v: %v, %v of %v", name, is, e, want, b, p, m)
	}
}

// A tally counts what was tried.
type tally struct{ no, bases, optimal int }

// checkLike holds Valid, Point and Optimal against the definitions.
func (c *tally) checkLike(t *testing.T, name string, m api.Model, b api.Basis) {
	t.Helper()
	p, is := pointOf(m, b)
	checkValid(t, name, m, b, is)
	if !is {
		c.no++
		return
	}
	c.bases++
	checkPoint(t, name, m, b, p)
	checkOptimal(t, name, m, b, p, kktOf(m, p))
	if kktOf(m, p) {
		c.optimal++
	}
}

// example: the least of 3 - x - y, x and y from 0 to 4, x + 2y at most 6.
func example() api.Model {
	at, low := sample.At, sample.Low
	cols := []api.Col{sample.Col("x", -1, at(0), at(4)), sample.Col("y", -1, at(0), at(4))}
	return api.Model{Offset: sample.Frac(3, 1), Cols: cols, Rows: []api.Row{sample.Row("r", low(), at(6), sample.Term(0, 1), sample.Term(1, 2))}}
}

// TestExamples: those of the chapter.
func TestExamples(t *testing.T) {
	half, m := sample.Frac(-1, 2), example()
	best := of(2, api.Upper, api.Basic, api.Upper)
	p := api.Point{X: nums(4, 1), Y: []api.Rat{half}, Z: []api.Rat{half, sample.Frac(0, 1)}}
	checkValid(t, "example 1", m, best, true)
	checkPoint(t, "example 1", m, best, p)
	checkOptimal(t, "example 1", m, best, p, true)
	slack, p := of(2, api.Lower, api.Lower, api.Basic), api.Point{X: nums(0, 0), Y: nums(0), Z: nums(-1, -1)}
	checkValid(t, "the slack basis of it", m, slack, true)
	checkPoint(t, "the slack basis of it", m, slack, p)
	checkOptimal(t, "the slack basis of it", m, slack, p, false)
	checkValid(t, "both columns Basic", m, of(2, api.Basic, api.Basic, api.Lower), false)
	checkValid(t, "both columns Basic, the row Upper", m, of(2, api.Basic, api.Basic, api.Upper), false)
	two := alike()
	checkValid(t, "example 2", two, of(2, api.Basic, api.Basic, api.Lower, api.Lower), false)
	checkValid(t, "example 2, one row Basic", two, of(2, api.Basic, api.Lower, api.Lower, api.Basic), true)
	none := api.Model{Offset: sample.Frac(0, 1), Cols: example().Cols}
	checkValid(t, "no rows", none, of(2, api.Lower, api.Upper), true)
	checkValid(t, "no rows and a Basic column", none, of(2, api.Lower, api.Basic), false)
}

// alike: two rows with the same terms x + y.
func alike() api.Model {
	at := sample.At
	cols := []api.Col{sample.Col("x", 1, at(0), at(9)), sample.Col("y", 2, at(-3), sample.High())}
	return api.Model{Offset: sample.Frac(0, 1), Cols: cols, Rows: []api.Row{
		sample.Row("r", at(2), at(5), sample.Term(0, 1), sample.Term(1, 1)), sample.Row("s", at(2), at(5), sample.Term(0, 1), sample.Term(1, 1))}}
}

// kinds: bounds that are finite and infinite on either side and on both, equal, and crossed.
func kinds() [][2]api.Ext {
	at, low, high := sample.At, sample.Low, sample.High
	return [][2]api.Ext{{at(1), at(3)}, {at(2), high()}, {low(), at(-1)}, {low(), high()}, {sample.AtFrac(2, 3), sample.AtFrac(2, 3)}, {at(1), at(-1)}, {at(0), at(5)}}
}

// TestAlone: each status of the one column there is, and of the one row, beside each kind of bounds.
func TestAlone(t *testing.T) {
	may := [][3]bool{{true, true, false}, {true, false, false}, {false, true, false}, {false, false, true}, {true, true, false}, {true, true, false}, {true, true, false}}
	for i, k := range kinds() {
		col := api.Model{Offset: sample.Frac(0, 1), Cols: []api.Col{sample.Col("x", 7, k[0], k[1])}}
		row := api.Model{Offset: sample.Frac(0, 1), Rows: []api.Row{sample.Row("r", k[0], k[1])}}
		checkValid(t, "a Basic column without rows", col, of(1, api.Basic), false)
		checkValid(t, "a Basic row", row, of(0, api.Basic), true)
		checkPoint(t, "a Basic row", row, of(0, api.Basic), api.Point{Y: nums(0)})
		// With a row beside it, so that the column may be Basic, and a column beside the row.
		both := api.Model{Offset: sample.Frac(0, 1), Cols: []api.Col{sample.Col("x", 7, k[0], k[1])}, Rows: []api.Row{sample.Row("r", sample.At(6), sample.High(), sample.Term(0, 3))}}
		checkPoint(t, "a Basic column", both, of(1, api.Basic, api.Lower), api.Point{X: nums(2), Y: []api.Rat{sample.Frac(7, 3)}, Z: nums(0)})
		turned := api.Model{Offset: sample.Frac(0, 1), Cols: []api.Col{sample.Col("x", 7, sample.Low(), sample.High())}, Rows: []api.Row{sample.Row("r", k[0], k[1], sample.Term(0, 3))}}
		for j, s := range []api.Status{api.Lower, api.Upper, api.Free} {
			checkValid(t, "a column", col, of(1, s), may[i][j])
			checkValid(t, "a row without terms", row, of(0, s), false)
			checkValid(t, "a column beside a row", both, of(1, s, api.Basic), may[i][j])
			checkValid(t, "a row beside a column", turned, of(1, api.Basic, s), may[i][j] && s != api.Free)
			if may[i][j] && s != api.Free {
				x := fromBig(at(s, k[0], k[1]))
				checkPoint(t, "a column", col, of(1, s), api.Point{X: []api.Rat{x}, Z: nums(7)})
			}
		}
		if may[i][2] {
			checkPoint(t, "a free column", col, of(1, api.Free), api.Point{X: nums(0), Z: nums(7)})
		}
	}
}

// all: each list of n statuses, with some that are not in form.
func all(n int, visit func(list []api.Status)) {
	list := make([]api.Status, n)
	var next func(place int)
	next = func(place int) {
		if place == n {
			visit(list)
			return
		}
		for s := api.Status(-1); s <= 4; s++ {
			list[place] = s
			next(place + 1)
		}
	}
	next(0)
}

// TestPairs: one column and one row, with each kind of bounds for both, a coefficient or none, and all statuses.
func TestPairs(t *testing.T) {
	var c tally
	for _, a := range kinds() {
		for _, r := range kinds() {
			for _, terms := range [][]api.Term{nil, {sample.Term(0, -3)}} {
				m := api.Model{Offset: sample.Frac(1, 2), Cols: []api.Col{sample.Col("x", 2, a[0], a[1])}, Rows: []api.Row{sample.Row("r", r[0], r[1], terms...)}}
				all(2, func(list []api.Status) { c.checkLike(t, "a column and a row", m, of(1, list...)) })
			}
		}
	}
	if c.no < 1000 || c.bases < 200 || c.optimal < 25 {
		t.Errorf("%v: too few are tried", c)
	}
}

// small: models with few columns and rows, some of whose rows are alike, multiples, sums of others, or without terms.
func small() []api.Model {
	at, low, high, term := sample.At, sample.Low, sample.High, sample.Term
	cols := []api.Col{sample.Col("x", 1, at(0), at(4)), sample.Col("y", -2, low(), high()), sample.Col("z", 3, low(), at(-1))}
	zero := sample.Frac(0, 1)
	out := []api.Model{
		{Offset: zero}, {Offset: zero, Cols: cols}, {Offset: zero, Rows: []api.Row{sample.Row("r", at(0), at(1)), sample.Row("s", low(), high()), sample.Row("u", at(0), high())}},
		example(), alike(),
		{Offset: zero, Cols: cols[:2], Rows: []api.Row{sample.Row("r", at(1), at(2), term(0, 1), term(1, -2)), sample.Row("s", low(), at(5), term(0, -3), term(1, 6))}},
		{Offset: zero, Cols: cols, Rows: []api.Row{sample.Row("r", at(1), at(2), term(0, 1), term(1, -2)), sample.Row("s", low(), at(5), term(1, 6), term(2, 1))}},
		{Offset: zero, Cols: cols[:2], Rows: []api.Row{sample.Row("r", at(1), at(2), term(0, 1)), sample.Row("s", at(3), at(5), term(1, 2)), sample.Row("u", at(3), at(5), term(0, 1), term(1, 2))}},
		{Offset: zero, Cols: cols[:2], Rows: []api.Row{sample.Row("r", at(1), at(2), term(1, 1)), sample.Row("s", at(3), at(5)), sample.Row("u", at(-3), at(5), term(0, 5), term(1, 2))}},
	}
	for seed := range 250 {
		if m := sample.Drawn(seed); len(m.Cols)+len(m.Rows) < 6 {
			out = append(out, m)
		}
	}
	return out
}

// TestSmall: all statuses of small models, those too that are not in form.
func TestSmall(t *testing.T) {
	var c tally
	for _, m := range small() {
		all(len(m.Cols)+len(m.Rows), func(list []api.Status) { c.checkLike(t, "a small model", m, of(len(m.Cols), list...)) })
	}
	if c.no < 10000 || c.bases < 500 || c.optimal < 50 {
		t.Errorf("%v: too few are tried", c)
	}
}

// TestDrawn: models that were made with an optimal basis, the largest among them; and with one status otherwise.
func TestDrawn(t *testing.T) {
	var c tally
	for _, k := range sample.Bases() {
		checkValid(t, "a basis", k.M, k.B, true)
		checkPoint(t, "a basis", k.M, k.B, k.P)
		checkOptimal(t, "a basis", k.M, k.B, k.P, true)
		if len(k.M.Rows) > 6 {
			continue
		}
		c.checkLike(t, "a basis", k.M, k.B)
		n := len(k.M.Cols)
		for place := range n + len(k.M.Rows) {
			for s := api.Status(-1); s <= 4; s++ {
				list := append(append([]api.Status{}, k.B.Cols...), k.B.Rows...)
				list[place] = s
				c.checkLike(t, "one status otherwise", k.M, of(n, list...))
				for other := range list {
					two := append([]api.Status{}, list...)
					two[other] = api.Basic
					c.checkLike(t, "two statuses otherwise", k.M, of(n, two...))
				}
			}
		}
	}
	if c.no < 5000 || c.bases < 1000 || c.optimal < 300 {
		t.Errorf("%v: too few are tried", c)
	}
}

// TestLong: numbers of more limbs.
func TestLong(t *testing.T) {
	var c tally
	all(4, func(list []api.Status) { c.checkLike(t, "more limbs", sample.Long(), of(2, list...)) })
	if c.bases < 5 {
		t.Errorf("%v: too few are tried", c)
	}
}

// TestStrange: statuses far from those that there are.
func TestStrange(t *testing.T) {
	m := example()
	for _, s := range []api.Status{-1, 4, 5, 64, 256, 1 << 32, math.MaxInt, math.MinInt} {
		checkValid(t, "a column", m, of(2, s, api.Lower, api.Basic), false)
		checkValid(t, "the last column", m, of(2, api.Lower, s, api.Basic), false)
		checkValid(t, "a row", m, of(2, api.Basic, api.Lower, s), false)
	}
}

// TestCount: too few and too many that are Basic, all, and none.
func TestCount(t *testing.T) {
	for _, k := range sample.Bases() {
		n, rows := len(k.M.Cols), len(k.M.Rows)
		for j, s := range k.B.Cols {
			if s == api.Basic {
				continue
			}
			more := cloned(k.B)
			more.Cols[j] = api.Basic
			checkValid(t, "a column too many is Basic", k.M, more, false)
			break
		}
		for i, s := range k.B.Rows {
			if s == api.Basic {
				continue
			}
			more := cloned(k.B)
			more.Rows[i] = api.Basic
			checkValid(t, "a row too many is Basic", k.M, more, false)
			break
		}
		if n > 0 {
			checkValid(t, "all are Basic", k.M, api.Basis{Cols: statuses(n, api.Basic), Rows: statuses(rows, api.Basic)}, false)
		}
		if rows > 0 {
			m := finite(k.M)
			checkValid(t, "none is Basic", m, api.Basis{Cols: statuses(n, api.Upper), Rows: statuses(rows, api.Lower)}, false)
			fewer := api.Basis{Cols: statuses(n, api.Lower), Rows: statuses(rows, api.Basic)}
			checkValid(t, "all rows are Basic", m, fewer, true)
			fewer.Rows[rows-1] = api.Upper
			checkValid(t, "too few are Basic", m, fewer, false)
		}
	}
}

// finite: the same model with numbers for all bounds.
func finite(m api.Model) api.Model {
	out := api.Model{Offset: m.Offset}
	for _, c := range m.Cols {
		c.Lo, c.Hi = sample.At(-1), sample.At(1)
		out.Cols = append(out.Cols, c)
	}
	for _, r := range m.Rows {
		r.Lo, r.Hi = sample.At(-1), sample.At(1)
		out.Rows = append(out.Rows, r)
	}
	return out
}

// TestLargestSingular: 64 columns that are Basic in 64 rows, one of which is like another, a multiple of it, a sum of two, or has no terms.
func TestLargestSingular(t *testing.T) {
	for _, k := range sample.Bases() {
		if len(k.M.Rows) < api.MaxRows || count(k.B.Rows) > 0 {
			continue
		}
		for _, turn := range []func(rows []api.Row){
			func(rows []api.Row) { rows[63].Terms = rows[0].Terms },
			func(rows []api.Row) { rows[0].Terms = rows[1].Terms },
			func(rows []api.Row) { rows[40].Terms = scaled(rows[41].Terms) },
			func(rows []api.Row) { rows[63].Terms = nil },
		} {
			m := k.M
			m.Rows = append([]api.Row{}, k.M.Rows...)
			turn(m.Rows)
			checkValid(t, "a row that another one makes", m, k.B, false)
		}
	}
}

// scaled: the terms, times -2/3.
func scaled(v []api.Term) []api.Term {
	var out []api.Term
	for _, t := range v {
		a := toBig(t.A)
		out = append(out, api.Term{Col: t.Col, A: fromBig(a.Mul(a, toBig(sample.Frac(-2, 3))))})
	}
	return out
}
