package sample

import (
	"strconv"

	"tableau/api"
)

// A Based model has the optimal basis B, whose point is P.
type Based struct {
	M api.Model
	B api.Basis
	P api.Point
}

// Bases: without columns, without rows, as large as may be with no column Basic, with some and with no row, and others; each status, with multipliers of 0, above and below it, beside finite and infinite bounds.
func Bases() []Based {
	d := &draw{state: 9}
	out := []Based{d.based(0, 0, 0), d.based(3, 0, 0), d.based(0, 3, 0), d.based(1, 1, 1), d.based(4, 4, 4)}
	for _, core := range []int{0, 20, api.MaxRows} {
		out = append(out, d.based(api.MaxCols, api.MaxRows, core))
	}
	for range 60 {
		cols, rows := d.below(6), d.below(6)
		out = append(out, d.based(cols, rows, d.below(min(cols, rows)+1)))
	}
	return out
}

// based draws which columns are Basic and which rows are not, as many of the ones as of the others, coefficients, the point and the multipliers; costs and bounds then follow.
func (d *draw) based(cols, rows, core int) Based {
	basic, resting := d.some(cols, core), d.some(rows, core)
	out := Based{M: api.Model{Offset: d.frac()}, B: api.Basis{Cols: make([]api.Status, cols), Rows: make([]api.Status, rows)}}
	for j := range cols {
		x, z := d.frac(), d.multiplier()
		c := api.Col{Name: "x" + strconv.Itoa(j), Lo: Low(), Hi: High()}
		switch {
		case basic[j] > 0:
			z = Frac(0, 1)
			c.Lo, c.Hi = d.around(x, z)
		case d.below(5) == 0:
			x, z, out.B.Cols[j] = Frac(0, 1), Frac(0, 1), api.Free
		default:
			out.B.Cols[j], c.Lo, c.Hi = d.resting(x, z)
		}
		c.Cost = copyRat(z)
		out.P.X, out.P.Z, out.M.Cols = append(out.P.X, x), append(out.P.Z, z), append(out.M.Cols, c)
	}
	for i := range rows {
		d.basedRow(&out, basic, resting[i])
	}
	return out
}

// basedRow puts the next row to it: of those that are not Basic the nth, 0 if it is Basic.
func (d *draw) basedRow(out *Based, basic []int, nth int) {
	i, y, act, core := len(out.M.Rows), d.multiplier(), Frac(0, 1), d.coreRow(nth, len(basic))
	if nth == 0 {
		y = Frac(0, 1)
	}
	r := api.Row{Name: "r" + strconv.Itoa(i)}
	for j := range out.M.Cols {
		a := d.thin(len(basic))
		if nth > 0 && basic[j] > 0 {
			a = core[basic[j]-1]
		}
		if len(a.Num) == 0 {
			continue
		}
		r.Terms = append(r.Terms, api.Term{Col: j, A: a})
		act = plusTimes(act, a, out.P.X[j])
		out.M.Cols[j].Cost = plusTimes(out.M.Cols[j].Cost, a, y)
	}
	if nth > 0 {
		out.B.Rows[i], r.Lo, r.Hi = d.resting(act, y)
	} else {
		r.Lo, r.Hi = d.around(act, y)
	}
	out.P.Y, out.M.Rows = append(out.P.Y, y), append(out.M.Rows, r)
}

// coreRow: the nth row of a matrix whose determinant is not 0: of one with noughts above its diagonal and none in it, each of whose columns then has the one ahead of it added on.
func (d *draw) coreRow(nth, n int) []api.Rat {
	row := make([]api.Rat, n)
	for col := range row {
		row[col] = Frac(0, 1)
		switch {
		case col+1 < nth:
			row[col] = d.thin(n)
		case col+1 == nth:
			row[col] = Frac(4*d.below(2)-2, d.below(3)+1)
		}
	}
	for col := n - 1; col > 0; col-- {
		row[col] = plusTimes(row[col], Frac(1, 1), row[col-1])
	}
	return row
}

// thin: one of n coefficients, of which some four are not 0.
func (d *draw) thin(n int) api.Rat {
	if d.below(n) > 3 {
		return Frac(0, 1)
	}
	return d.frac()
}

// some: which of the first n places, count in all, are taken, and as the how manieth; 0 where they aren't.
func (d *draw) some(n, count int) []int {
	out := make([]int, n)
	for taken := 0; taken < count; {
		if place := d.below(n); out[place] == 0 {
			taken++
			out[place] = taken
		}
	}
	return out
}

// resting: a status that is not Basic, and bounds, one of which v is at, beside which the multiplier w may stand.
func (d *draw) resting(v, w api.Rat) (api.Status, api.Ext, api.Ext) {
	lo, hi := d.around(v, w)
	lower := !w.Neg
	switch {
	case len(w.Num) > 0:
		if lo.Inf == 0 && hi.Inf == 0 && len(plusTimes(lo.V, Frac(-1, 1), hi.V).Num) == 0 {
			lower = d.below(2) == 0
		}
	case d.below(2) == 0:
		lo = api.Ext{V: copyRat(v)}
	default:
		lower, hi = false, api.Ext{V: copyRat(v)}
	}
	if lower {
		return api.Lower, lo, hi
	}
	return api.Upper, lo, hi
}
