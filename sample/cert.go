package sample

import (
	"strconv"

	"tableau/api"
	"tableau/rat"
)

// A Certified model has no point, which C shows.
type Certified struct {
	M api.Model
	C api.Cert
}

// Certs: without columns, without rows, with rows without terms, as large as may be, and others; multipliers of 0 and above it, of one side of a row or a column and of both, beside finite, infinite and crossed bounds.
func Certs() []Certified {
	d := &draw{state: 5}
	out := []Certified{d.certified(1, 0), d.certified(0, 1), d.certified(3, 0), d.certified(0, 3), d.certified(1, 1), d.certified(api.MaxCols, api.MaxRows)}
	for range 40 {
		out = append(out, d.certified(d.below(6), d.below(5)+1))
	}
	return out
}

// certified draws rows and their multipliers; those of the columns then follow, and last a bound is moved till the multipliers show something.
func (d *draw) certified(cols, rows int) Certified {
	out := Certified{M: api.Model{Offset: d.frac()}}
	sums := make([]api.Rat, cols)
	for col := range sums {
		sums[col] = Frac(0, 1)
	}
	for i := range rows {
		lo, hi := d.above(), d.above()
		r := api.Row{Name: "r" + strconv.Itoa(i), Lo: d.beside(lo, Low()), Hi: d.beside(hi, High())}
		for col := range cols {
			if a := d.frac(); len(a.Num) > 0 && d.below(cols) < 4 {
				r.Terms = append(r.Terms, api.Term{Col: col, A: a})
				sums[col] = plusTimes(plusTimes(sums[col], a, lo), a, minus(hi))
			}
		}
		out.M.Rows = append(out.M.Rows, r)
		out.C.RowLo, out.C.RowHi = append(out.C.RowLo, lo), append(out.C.RowHi, hi)
	}
	for col, sum := range sums {
		lo := d.above()
		hi := copyRat(lo)
		if sum.Neg {
			lo = plusTimes(lo, Frac(-1, 1), sum)
		} else {
			hi = plusTimes(hi, Frac(1, 1), sum)
		}
		out.M.Cols = append(out.M.Cols, api.Col{Name: "x" + strconv.Itoa(col), Cost: d.frac(), Lo: d.beside(lo, Low()), Hi: d.beside(hi, High())})
		out.C.ColLo, out.C.ColHi = append(out.C.ColLo, lo), append(out.C.ColHi, hi)
	}
	out.show()
	return out
}

// above: a multiplier, 0 as often as not.
func (d *draw) above() api.Rat {
	w := d.multiplier()
	w.Neg = false
	return w
}

// beside: a bound that this multiplier may stand beside: any, if it is 0.
func (d *draw) beside(w api.Rat, infinite api.Ext) api.Ext {
	if len(w.Num) == 0 && d.below(2) == 0 {
		return infinite
	}
	return api.Ext{V: d.frac()}
}

// A pair is both bounds of a row or of a column, with their multipliers.
type pair struct {
	lo, hi     *api.Ext
	loBy, hiBy *api.Rat
}

func (c *Certified) pairs() []pair {
	var out []pair
	for i := range c.M.Rows {
		out = append(out, pair{&c.M.Rows[i].Lo, &c.M.Rows[i].Hi, &c.C.RowLo[i], &c.C.RowHi[i]})
	}
	for i := range c.M.Cols {
		out = append(out, pair{&c.M.Cols[i].Lo, &c.M.Cols[i].Hi, &c.C.ColLo[i], &c.C.ColHi[i]})
	}
	return out
}

// show moves one bound so far that the sum of all, times their multipliers, is above 0. Where all multipliers are 0, the first pair is crossed.
func (c *Certified) show() {
	total, leaning := Frac(0, 1), []pair(nil)
	for _, p := range c.pairs() {
		total = plusTimes(plusTimes(total, *p.loBy, p.lo.V), minus(*p.hiBy), p.hi.V)
		if len(p.loBy.Num)+len(p.hiBy.Num) > 0 {
			leaning = append(leaning, p)
		}
	}
	if len(leaning) == 0 {
		p := c.pairs()[0]
		*p.lo, *p.hi, *p.loBy, *p.hiBy = At(2), At(1), Frac(1, 1), Frac(1, 1)
		return
	}
	if len(total.Num) > 0 && !total.Neg {
		return
	}
	p, short := leaning[len(leaning)-1], plusTimes(Frac(1, 3), Frac(-1, 1), total)
	if len(p.loBy.Num) > 0 {
		part, _ := rat.Quo(short, *p.loBy)
		p.lo.V = plusTimes(p.lo.V, Frac(1, 1), part)
		return
	}
	part, _ := rat.Quo(short, *p.hiBy)
	p.hi.V = plusTimes(p.hi.V, Frac(-1, 1), part)
}

func minus(r api.Rat) api.Rat { return plusTimes(Frac(0, 1), Frac(-1, 1), r) }
