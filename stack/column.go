package stack

import (
	"slices"

	"tableau/api"
	"tableau/rat"
)

// Column is the step by which a column goes, whose variable is a number.
type Column struct {
	Exact
	at     int
	value  api.Rat
	cost   api.Rat
	terms  []api.Term // Col is the row
	status api.Status
}

// NewColumn: column at of m, which is well formed, goes with this number, and comes back with this status. The bound of that status is the number; or both bounds are infinite, it is 0, and the status is Free.
func NewColumn(m api.Model, at int, value api.Rat, status api.Status) Column {
	c := Column{at: at, value: rat.Copy(value), cost: rat.Copy(m.Cols[at].Cost), status: status}
	for row, r := range m.Rows {
		for _, t := range r.Terms {
			if t.Col == at {
				c.terms = append(c.terms, api.Term{Col: row, A: rat.Copy(t.A)})
			}
		}
	}
	return c
}

// Gone: one column.
func (c Column) Gone() (cols, rows int) { return 1, 0 }

// Primal: its number.
func (c Column) Primal(x []api.Rat) []api.Rat { return slices.Insert(x, c.at, rat.Copy(c.value)) }

// Lift: a number does not move.
func (c Column) Lift(d []api.Rat) []api.Rat { return slices.Insert(d, c.at, rat.Of(0)) }

// Dual: its reduced cost by the rows' multipliers.
func (c Column) Dual(p api.Point) api.Point {
	z := rat.Copy(c.cost)
	for _, t := range c.terms {
		z = minus(z, times(p.Y[t.Col], t.A))
	}
	p.X, p.Z = c.Primal(p.X), slices.Insert(p.Z, c.at, z)
	return p
}

// Basis: it rests at its number.
func (c Column) Basis(b Corner) Corner {
	b.Basis.Cols = slices.Insert(b.Basis.Cols, c.at, c.status)
	b.Point = c.Dual(b.Point)
	return b
}

// Cert: its bounds take up what the rows' multipliers leave of its coefficients.
func (c Column) Cert(t api.Cert) api.Cert {
	left := rat.Of(0)
	for _, term := range c.terms {
		left = minus(left, times(minus(t.RowLo[term.Col], t.RowHi[term.Col]), term.A))
	}
	lo, hi := left, rat.Of(0)
	if left.Neg {
		lo, hi = hi, minus(hi, left)
	}
	t.ColLo, t.ColHi = slices.Insert(t.ColLo, c.at, lo), slices.Insert(t.ColHi, c.at, hi)
	return t
}

// minus wants both in form.
func minus(a, b api.Rat) api.Rat {
	difference, _ := rat.Sub(a, b)
	return difference
}

// times wants both in form.
func times(a, b api.Rat) api.Rat {
	product, _ := rat.Mul(a, b)
	return product
}
