package sample

import (
	"strconv"

	"tableau/api"
)

// A Rayed model is unbounded, which R shows.
type Rayed struct {
	M api.Model
	R api.Ray
}

// Rays: without rows, with rows without terms, as large as may be, and others; directions of 0, above and below it, beside finite and infinite bounds.
func Rays() []Rayed {
	d := &draw{state: 31}
	out := []Rayed{d.rayed(1, 0), d.rayed(3, 0), d.rayed(1, 1), d.rayed(api.MaxCols, api.MaxRows)}
	for range 40 {
		out = append(out, d.rayed(d.below(5)+1, d.below(6)))
	}
	return out
}

// rayed draws the point, the direction and the coefficients; bounds and the last cost then follow, so that it is a ray.
func (d *draw) rayed(cols, rows int) Rayed {
	out := Rayed{M: api.Model{Offset: d.frac()}}
	slope := Frac(0, 1)
	for i := range cols {
		x, way, cost := d.frac(), d.multiplier(), d.frac()
		if i == cols-1 {
			// Wherever the others lead, the last column takes the value down by 1.
			way = Frac(d.below(2)*4-2, 3)
			cost = plusTimes(Frac(0, 1), plusTimes(minus(slope), Frac(-1, 1), Frac(1, 1)), inverse(way))
		}
		slope = plusTimes(slope, cost, way)
		lo, hi := d.open(x, way)
		out.R.X, out.R.D = append(out.R.X, x), append(out.R.D, way)
		out.M.Cols = append(out.M.Cols, api.Col{Name: "x" + strconv.Itoa(i), Cost: cost, Lo: lo, Hi: hi})
	}
	for i := range rows {
		r, act, way := api.Row{Name: "r" + strconv.Itoa(i)}, Frac(0, 1), Frac(0, 1)
		for col := range cols {
			if a := d.frac(); len(a.Num) > 0 && d.below(cols) < 4 {
				r.Terms = append(r.Terms, api.Term{Col: col, A: a})
				act, way = plusTimes(act, a, out.R.X[col]), plusTimes(way, a, out.R.D[col])
			}
		}
		r.Lo, r.Hi = d.open(act, way)
		out.M.Rows = append(out.M.Rows, r)
	}
	return out
}

// open: bounds that v keeps, none of them where the way leads.
func (d *draw) open(v, way api.Rat) (lo, hi api.Ext) {
	lo, hi = d.around(v, Frac(0, 1))
	switch {
	case len(way.Num) == 0:
	case way.Neg:
		lo = Low()
	default:
		hi = High()
	}
	return lo, hi
}

// inverse: 1 over r, which is not 0.
func inverse(r api.Rat) api.Rat { return api.Rat{Neg: r.Neg, Num: copyRat(r).Den, Den: copyRat(r).Num} }
