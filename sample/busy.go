package sample

import (
	"strconv"

	"tableau/api"
)

// Script: up to so many codes of passes for each seed.
func Script(seed, most int) []int {
	d := &draw{state: uint64(seed) + 1<<51}
	d.below(2)
	var out []int
	for range d.below(most + 1) {
		out = append(out, 1+d.below(7))
	}
	return out
}

// Busy: a small model for each seed, in which scripts find much to do, and of which they leave something: such as Prunable, with more bounds, and with free columns in equations; such as Sturdy; such with a column that goes away without end; and such in which two do together.
func Busy(seed int) api.Model {
	switch m := Prunable(seed); seed % 7 {
	case 0:
		return bounded(m, seed)
	case 1:
		return freed(m, seed)
	case 2, 3:
		return Sturdy(seed)
	case 4:
		return away(m, seed)
	case 5:
		return away(Sturdy(seed), seed)
	default:
		return together(Sturdy(seed), seed)
	}
}

// bounded: with both bounds of most columns, so that rows imply others.
func bounded(m api.Model, seed int) api.Model {
	for j := range m.Cols {
		c := &m.Cols[j]
		if c.Lo.Inf != 0 && (seed+j)%3 > 0 {
			c.Lo = At(-3)
		}
		if c.Hi.Inf != 0 && (seed+j)%3 > 0 {
			c.Hi = At(4)
		}
	}
	return m
}

// freed: with free columns, and equations.
func freed(m api.Model, seed int) api.Model {
	for j := range m.Cols {
		if (seed/4+j)%2 == 0 {
			m.Cols[j].Lo, m.Cols[j].Hi = Low(), High()
		}
	}
	for i := range m.Rows {
		if r := &m.Rows[i]; r.Lo.Inf == 0 && (seed/8+i)%2 == 0 {
			r.Hi = api.Ext{V: copyRat(r.Lo.V)}
		}
	}
	return m
}

// away: with a column that goes up without end, unless a row, or a crossed bound, minds.
func away(m api.Model, seed int) api.Model {
	n := len(m.Cols)
	m.Cols = append(m.Cols, Col("away", -1-seed%3, At(seed%5-2), High()))
	if len(m.Rows) > 0 && seed%2 == 0 {
		r := &m.Rows[seed/2%len(m.Rows)]
		r.Hi, r.Terms = High(), append(r.Terms, Term(n, 2))
	}
	return m
}

// together: with two columns that go up together without end, which no pass sees.
func together(m api.Model, seed int) api.Model {
	n := len(m.Cols)
	m.Cols = append(m.Cols, Col("up", -1, At(0), High()), Col("with", seed%2, At(-1), High()))
	m.Rows = append(m.Rows, Row("both", At(-3), At(3), Term(n, 2), Term(n+1, -3)))
	return m
}

// Sturdy: a small model for each seed, of which much is left, whatever the script: rows of three terms and more with both bounds, which imply bounds of the columns. Beside them stand a row of one term, and a column that is one number.
func Sturdy(seed int) api.Model {
	d := &draw{state: uint64(seed) + 1<<52}
	d.below(2)
	m := api.Model{Offset: Frac(d.below(5)-2, 2)}
	for i := range 3 + d.below(2) {
		lo, hi := At(-d.below(4)), At(d.below(5))
		if i == 2 {
			hi = api.Ext{V: copyRat(lo.V)}
		}
		m.Cols = append(m.Cols, Col("x"+strconv.Itoa(i), d.below(5)-2, lo, hi))
	}
	for i := range 3 {
		r := Row("r"+strconv.Itoa(i), At(-1-d.below(4)), At(d.below(4)))
		if i == d.below(3) {
			r.Lo, r.Terms = Low(), []api.Term{Term(d.below(len(m.Cols)), 1)}
			m.Rows = append(m.Rows, r)
			continue
		}
		for col := range m.Cols {
			r.Terms = append(r.Terms, Term(col, (1+d.below(3))*(1-2*d.below(2))))
		}
		m.Rows = append(m.Rows, r)
	}
	return m
}
