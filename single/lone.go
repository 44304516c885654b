package single

import (
	"tableau/api"
	"tableau/rat"
	"tableau/stack"
)

// lone is the step by which a row of one term goes. Where it comes back, it takes from its column what leaned on a bound that was the row's alone.
type lone struct {
	stack.Row
	stack.Lent
	col int
}

// Dual: the sign of the column's reduced cost tells which bound it needs.
func (l lone) Dual(p api.Point) api.Point {
	p = l.Row.Dual(p)
	if l.Bears(p.Z[l.col]) {
		l.lay(p)
	}
	return p
}

// Basis: the row rests where the column did at a bound that was the row's alone, and the column is Basic.
func (l lone) Basis(c stack.Corner) stack.Corner {
	c = l.Row.Basis(c)
	if l.Rest(c.Point.Z[l.col], &c.Basis.Cols[l.col], &c.Basis.Rows[l.At]) {
		l.lay(c.Point)
	}
	return c
}

// Cert: the row takes over the multipliers of its bounds.
func (l lone) Cert(c api.Cert) api.Cert {
	c = l.Row.Cert(c)
	c.RowLo[l.At], c.RowHi[l.At] = l.Multipliers(&c.ColLo[l.col], &c.ColHi[l.col])
	return c
}

// lay lays the column's reduced cost on the row, in p's own lists.
func (l lone) lay(p api.Point) {
	p.Y[l.At], p.Z[l.col] = l.Share(p.Z[l.col]), rat.Of(0)
}
