package stack

import (
	"tableau/api"
	"tableau/rat"
)

// entries is what steps have in common by which a column goes: its place, its cost, and its coefficients in the rows.
type entries struct {
	Col   int
	cost  api.Rat
	terms []api.Term // Col is the row
}

// entriesOf keeps no memory of m, which is well formed.
func entriesOf(m api.Model, col int) entries {
	e := entries{Col: col, cost: rat.Copy(m.Cols[col].Cost)}
	for row, r := range m.Rows {
		for _, t := range r.Terms {
			if t.Col == col {
				e.terms = append(e.terms, api.Term{Col: row, A: rat.Copy(t.A)})
			}
		}
	}
	return e
}

// reduced: its reduced cost by the rows' multipliers.
func (e entries) reduced(y []api.Rat) api.Rat {
	z := rat.Copy(e.cost)
	for _, t := range e.terms {
		z = minus(z, times(y[t.Col], t.A))
	}
	return z
}

// left: what must be added to what the rows' multipliers make of its coefficients, so that it is 0.
func (e entries) left(c api.Cert) api.Rat {
	sum := rat.Of(0)
	for _, t := range e.terms {
		sum = minus(sum, times(minus(c.RowLo[t.Col], c.RowHi[t.Col]), t.A))
	}
	return sum
}

// Sides: what a lower and an upper bound must have as multipliers, so that the one less the other is this number, and one of them 0.
func Sides(r api.Rat) (lo, hi api.Rat) {
	if r.Neg {
		return rat.Of(0), minus(rat.Of(0), r)
	}
	return rat.Copy(r), rat.Of(0)
}

// minus wants both in form.
func minus(a, b api.Rat) api.Rat {
	difference, _ := rat.Sub(a, b)
	return difference
}

// times wants both in form.
func times(a, b api.Rat) api.Rat {
	product, _ := rat.Mul(a, b)
	return product
}

// over wants both in form, and b not 0.
func over(a, b api.Rat) api.Rat {
	quotient, _ := rat.Quo(a, b)
	return quotient
}
