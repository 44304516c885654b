package sample

import (
	"slices"
	"strconv"

	"tableau/api"
)

// Models: well formed ones: without columns, without rows, with rows without terms, with crossed and with infinite bounds, with columns that stand in no row or in some, with a name that a column and a row both have, with the longest names, with numbers of more limbs, and as large as may be.
func Models() []api.Model {
	out := []api.Model{
		{Offset: Frac(0, 1)},
		{Offset: Frac(-7, 3)},
		{Offset: Frac(0, 1), Cols: []api.Col{Col("x", 1, At(1), High())}},
		{Offset: Frac(2, 1), Cols: []api.Col{Col("x", 0, Low(), High()), Col("y", -2, At(0), At(0)), Col("z", 1, Low(), At(-3))}},
		{Offset: Frac(0, 1), Cols: []api.Col{Col("x", 0, At(2), At(1))}},
		{Offset: Frac(0, 1), Rows: []api.Row{Row("r", At(1), At(2))}},
		{Offset: Frac(1, 2), Rows: []api.Row{Row("r", Low(), High()), Row("s", At(0), High()), Row("t", Low(), At(0)), Row("u", At(1), At(-1))}},
		Three(), Long(), Full(),
	}
	for seed := range 12 {
		out = append(out, Drawn(seed))
	}
	return out
}

// Three: the least of 1 + 3x - z/2 with three columns and three rows; y stands in no row, the row u has no terms, and y is a row's name, too.
func Three() api.Model {
	cols := []api.Col{Col("x", 3, At(0), High()), Col("y", 0, At(2), At(1)), {Name: "z", Cost: Frac(-1, 2), Lo: Low(), Hi: AtFrac(7, 2)}}
	rows := []api.Row{
		Row("y", At(1), At(5), Term(0, 1), api.Term{Col: 2, A: Frac(-2, 3)}),
		Row("u", Low(), High()),
		Row("v", Low(), At(9), Term(2, 3)),
	}
	return api.Model{Offset: Frac(1, 1), Cols: cols, Rows: rows}
}

// Long: numbers of more limbs, and names as long as may be.
func Long() api.Model {
	big := api.Rat{Neg: true, Num: []uint64{1, 0, 1}, Den: []uint64{3}}
	small := api.Rat{Num: []uint64{1}, Den: []uint64{7, 1}}
	cols := []api.Col{{Name: "abcdefghijklmnop", Cost: big, Lo: api.Ext{V: big}, Hi: api.Ext{V: small}}, {Name: "z123456789______", Cost: small, Lo: Low(), Hi: api.Ext{V: big}}}
	rows := []api.Row{{Name: "a", Lo: api.Ext{V: small}, Hi: High(), Terms: []api.Term{{Col: 0, A: small}, {Col: 1, A: big}}}, {Name: "b_0", Lo: api.Ext{V: big}, Hi: api.Ext{V: big}, Terms: []api.Term{{Col: 1, A: small}}}}
	return apart(api.Model{Offset: small, Cols: cols, Rows: rows})
}

// Full: MaxCols columns and MaxRows rows; each row has a term of its own column, of the next, and of the last.
func Full() api.Model {
	m := api.Model{Offset: Frac(0, 1)}
	for i := range api.MaxCols {
		m.Cols = append(m.Cols, Col("x"+strconv.Itoa(i), i-30, At(-i), At(i)))
	}
	for i := range api.MaxRows {
		var terms []api.Term
		last := api.MaxCols - 1
		for _, col := range slices.Compact([]int{i, min(i+1, last), last}) {
			terms = append(terms, Term(col, col-2*i|1))
		}
		m.Rows = append(m.Rows, Row("r"+strconv.Itoa(i), At(i), High(), terms...))
	}
	return m
}

// Drawn: a model for each seed, with up to five columns and rows and small numbers.
func Drawn(seed int) api.Model {
	d := &draw{state: uint64(seed)}
	m := api.Model{Offset: d.frac()}
	for i := range d.below(6) {
		lo, hi := d.bounds()
		m.Cols = append(m.Cols, api.Col{Name: "x" + strconv.Itoa(i), Cost: d.frac(), Lo: lo, Hi: hi})
	}
	for i := range d.below(6) {
		lo, hi := d.bounds()
		r := api.Row{Name: "r" + strconv.Itoa(i), Lo: lo, Hi: hi}
		for col := range m.Cols {
			if a := d.frac(); len(a.Num) > 0 && d.below(3) > 0 {
				r.Terms = append(r.Terms, api.Term{Col: col, A: a})
			}
		}
		m.Rows = append(m.Rows, r)
	}
	return m
}

// A draw hands out small numbers, always the same ones.
type draw struct{ state uint64 }

func (d *draw) below(n int) int {
	d.state = d.state*6364136223846793005 + 1442695040888963407
	return int(d.state>>33) % n
}

func (d *draw) frac() api.Rat { return Frac(d.below(13)-6, d.below(3)+1) }

// bounds: now and then infinite, equal or crossed.
func (d *draw) bounds() (lo, hi api.Ext) {
	lo, hi = api.Ext{V: d.frac()}, api.Ext{V: d.frac()}
	if d.below(3) == 0 {
		lo = Low()
	}
	switch d.below(5) {
	case 0, 1:
		hi = High()
	case 2:
		if lo.Inf == 0 {
			hi = api.Ext{V: copyRat(lo.V)}
		}
	}
	return lo, hi
}

// apart answers the same model, no two of whose lists share memory.
func apart(m api.Model) api.Model {
	m.Offset = copyRat(m.Offset)
	for i := range m.Cols {
		c := &m.Cols[i]
		c.Cost, c.Lo.V, c.Hi.V = copyRat(c.Cost), copyRat(c.Lo.V), copyRat(c.Hi.V)
	}
	for i := range m.Rows {
		r := &m.Rows[i]
		r.Lo.V, r.Hi.V = copyRat(r.Lo.V), copyRat(r.Hi.V)
		for k := range r.Terms {
			r.Terms[k].A = copyRat(r.Terms[k].A)
		}
	}
	return m
}

func copyRat(r api.Rat) api.Rat {
	return api.Rat{Neg: r.Neg, Num: append([]uint64(nil), r.Num...), Den: append([]uint64(nil), r.Den...)}
}
