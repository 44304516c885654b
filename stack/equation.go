package stack

import (
	"slices"

	"tableau/api"
	"tableau/rat"
)

// Equation is the step by which a column goes together with the equation that tells it, and what steps have in common by which two such go. The column comes back as if its own bounds asked nothing; another step lays on it what they have to bear.
type Equation struct {
	Exact
	entries            // the column's
	Row     int        // the equation's place in the model ahead of the step
	A       api.Rat    // its coefficient of the column
	others  []api.Term // its other terms
	right   api.Rat    // its number
}

// NewEquation: column col of m, which is well formed, goes with the row, both of whose bounds are one number, and which has a term of the column.
func NewEquation(m api.Model, row, col int) Equation {
	e := Equation{entries: entriesOf(m, col), Row: row, right: rat.Copy(m.Rows[row].Lo.V)}
	for _, t := range m.Rows[row].Terms {
		if t.Col == col {
			e.A = rat.Copy(t.A)
		} else {
			e.others = append(e.others, api.Term{Col: t.Col, A: rat.Copy(t.A)})
		}
	}
	return e
}

// Gone: the column and the row.
func (e Equation) Gone() (cols, rows int) { return 1, 1 }

// Primal: the number that the equation says.
func (e Equation) Primal(x []api.Rat) []api.Rat { return e.told(x, e.right) }

// Lift: the equation's number does not move.
func (e Equation) Lift(d []api.Rat) []api.Rat { return e.told(d, rat.Of(0)) }

// told puts in what the equation, with this number, says of the column.
func (e Equation) told(x []api.Rat, right api.Rat) []api.Rat {
	x = slices.Insert(x, e.Col, rat.Of(0))
	for _, t := range e.others {
		right = minus(right, times(t.A, x[t.Col]))
	}
	x[e.Col] = over(right, e.A)
	return x
}

// Dual: the equation takes all that the other rows leave of the column's cost. Its own multiplier is 0 as that is reckoned.
func (e Equation) Dual(p api.Point) api.Point {
	p.X, p.Z = e.Primal(p.X), slices.Insert(p.Z, e.Col, rat.Of(0))
	p.Y = slices.Insert(p.Y, e.Row, rat.Of(0))
	p.Y[e.Row] = over(e.reduced(p.Y), e.A)
	return p
}

// Basis: the column is Basic. The equation, both of whose bounds are one number, rests there.
func (e Equation) Basis(c Corner) Corner {
	c.Basis.Cols = slices.Insert(c.Basis.Cols, e.Col, api.Basic)
	c.Basis.Rows = slices.Insert(c.Basis.Rows, e.Row, api.Lower)
	c.Point = e.Dual(c.Point)
	return c
}

// Cert: the equation takes up what the other rows' multipliers leave of the column's coefficients. Its own are 0 as that is reckoned.
func (e Equation) Cert(c api.Cert) api.Cert {
	for _, list := range []*[]api.Rat{&c.ColLo, &c.ColHi} {
		*list = slices.Insert(*list, e.Col, rat.Of(0))
	}
	for _, list := range []*[]api.Rat{&c.RowLo, &c.RowHi} {
		*list = slices.Insert(*list, e.Row, rat.Of(0))
	}
	c.RowLo[e.Row], c.RowHi[e.Row] = Sides(over(e.left(c), e.A))
	return c
}
