package sample

import (
	"strconv"

	"tableau/api"
	"tableau/rat"
)

// A Kkt is a model with a KKT point of it.
type Kkt struct {
	M api.Model
	P api.Point
}

// Kkts: without columns, without rows, with rows without terms, as large as may be, and others; multipliers of either sign and 0, at numbers that are at a bound, at both and at none, beside finite and infinite ones.
func Kkts() []Kkt {
	d := &draw{state: 77}
	out := []Kkt{d.kkt(0, 0), d.kkt(3, 0), d.kkt(0, 3), d.kkt(1, 1), d.kkt(api.MaxCols, api.MaxRows)}
	for range 40 {
		out = append(out, d.kkt(d.below(6), d.below(6)))
	}
	return out
}

// kkt draws the point and the coefficients; costs and bounds then follow, so that it is a KKT point.
func (d *draw) kkt(cols, rows int) Kkt {
	m, p := api.Model{Offset: d.frac()}, api.Point{}
	for i := range cols {
		x, z := d.frac(), d.multiplier()
		lo, hi := d.around(x, z)
		p.X, p.Z = append(p.X, x), append(p.Z, z)
		m.Cols = append(m.Cols, api.Col{Name: "x" + strconv.Itoa(i), Cost: copyRat(z), Lo: lo, Hi: hi})
	}
	for i := range rows {
		r, y, act := api.Row{Name: "r" + strconv.Itoa(i)}, d.multiplier(), Frac(0, 1)
		for col := range m.Cols {
			a := d.frac()
			if len(a.Num) == 0 || d.below(cols) > 3 {
				continue
			}
			r.Terms = append(r.Terms, api.Term{Col: col, A: a})
			act = plusTimes(act, a, p.X[col])
			m.Cols[col].Cost = plusTimes(m.Cols[col].Cost, a, y)
		}
		r.Lo, r.Hi = d.around(act, y)
		p.Y, m.Rows = append(p.Y, y), append(m.Rows, r)
	}
	return Kkt{M: m, P: p}
}

// multiplier: 0 as often as not.
func (d *draw) multiplier() api.Rat {
	if d.below(2) == 0 {
		return Frac(0, 1)
	}
	return d.frac()
}

// around: bounds that v keeps, and beside which the multiplier w may stand.
func (d *draw) around(v, w api.Rat) (lo, hi api.Ext) {
	lo, hi = Low(), High()
	leans := len(w.Num) > 0
	switch kind := d.below(3); {
	case leans && !w.Neg || kind == 0:
		lo = api.Ext{V: copyRat(v)}
	case kind == 1:
		lo = api.Ext{V: plusTimes(v, Frac(-1, 1), Frac(d.below(5)+1, 3))}
	}
	switch kind := d.below(3); {
	case leans && w.Neg || kind == 0:
		hi = api.Ext{V: copyRat(v)}
	case kind == 1:
		hi = api.Ext{V: plusTimes(v, Frac(1, 1), Frac(d.below(5)+1, 3))}
	}
	return lo, hi
}

// plusTimes: a + b c.
func plusTimes(a, b, c api.Rat) api.Rat {
	product, _ := rat.Mul(b, c)
	sum, _ := rat.Add(a, product)
	return sum
}
