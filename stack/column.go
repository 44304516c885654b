package stack

import (
	"slices"

	"tableau/api"
	"tableau/rat"
)

// Column is the step by which a column goes, whose variable is a number.
type Column struct {
	Exact
	entries
	value  api.Rat
	status api.Status
}

// NewColumn: column at of m, which is well formed, goes with this number, and comes back with this status. The bound of that status is the number; or both bounds are infinite, it is 0, and the status is Free.
func NewColumn(m api.Model, at int, value api.Rat, status api.Status) Column {
	return Column{entries: entriesOf(m, at), value: rat.Copy(value), status: status}
}

// Gone: one column.
func (c Column) Gone() (cols, rows int) { return 1, 0 }

// Primal: its number.
func (c Column) Primal(x []api.Rat) []api.Rat { return slices.Insert(x, c.Col, rat.Copy(c.value)) }

// Lift: a number does not move.
func (c Column) Lift(d []api.Rat) []api.Rat { return slices.Insert(d, c.Col, rat.Of(0)) }

// Dual: its reduced cost by the rows' multipliers.
func (c Column) Dual(p api.Point) api.Point {
	p.X, p.Z = c.Primal(p.X), slices.Insert(p.Z, c.Col, c.reduced(p.Y))
	return p
}

// Basis: it rests at its number.
func (c Column) Basis(b Corner) Corner {
	b.Basis.Cols = slices.Insert(b.Basis.Cols, c.Col, c.status)
	b.Point = c.Dual(b.Point)
	return b
}

// Cert: its bounds take up what the rows' multipliers leave of its coefficients.
func (c Column) Cert(t api.Cert) api.Cert {
	lo, hi := Sides(c.left(t))
	t.ColLo, t.ColHi = slices.Insert(t.ColLo, c.Col, lo), slices.Insert(t.ColHi, c.Col, hi)
	return t
}
