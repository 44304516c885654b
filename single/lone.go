package single

import (
	"tableau/api"
	"tableau/rat"
	"tableau/stack"
)

// lone is the step by which a row of one term goes. Where it comes back, it takes from its column what leaned on a bound that was the row's alone.
type lone struct {
	stack.Row
	col            int
	a              api.Rat
	tookLo, tookHi bool // the row's bound is stricter than the column's own
}

// Dual: the sign of the reduced cost tells which bound it needs.
func (l lone) Dual(p api.Point) api.Point {
	p = l.Row.Dual(p)
	if l.took(stack.Leans(p.Z[l.col], api.Basic)) {
		l.lay(p)
	}
	return p
}

// Basis: the column can't rest at a bound that was the row's alone, even where its reduced cost is 0: the row rests there, and the column is Basic. (That of a Basic or a Free column is 0: it stays what it is.)
func (l lone) Basis(c stack.Corner) stack.Corner {
	c = l.Row.Basis(c)
	cols, rows := c.Basis.Cols, c.Basis.Rows
	side := stack.Leans(c.Point.Z[l.col], cols[l.col])
	cols[l.col] = side
	if l.took(side) {
		cols[l.col], rows[l.At] = api.Basic, l.side(side)
		l.lay(c.Point)
	}
	return c
}

// Cert: the row takes over the multipliers of its bounds, whichever sign its term has.
func (l lone) Cert(c api.Cert) api.Cert {
	c = l.Row.Cert(c)
	lo, hi := c.RowLo, c.RowHi
	if l.a.Neg {
		lo, hi = hi, lo
	}
	size := l.a
	size.Neg = false
	if l.tookLo {
		lo[l.At], c.ColLo[l.col] = over(c.ColLo[l.col], size), rat.Of(0)
	}
	if l.tookHi {
		hi[l.At], c.ColHi[l.col] = over(c.ColHi[l.col], size), rat.Of(0)
	}
	return c
}

// took: was the column's bound of this side the row's alone?
func (l lone) took(side api.Status) bool {
	return side == api.Lower && l.tookLo || side == api.Upper && l.tookHi
}

// side: at which of its bounds the row is where the column is at this one of the row's.
func (l lone) side(col api.Status) api.Status {
	if l.a.Neg {
		return stack.Opposite(col)
	}
	return col
}

// lay lays the column's reduced cost on the row, in p's own lists.
func (l lone) lay(p api.Point) {
	p.Y[l.At], p.Z[l.col] = over(p.Z[l.col], l.a), rat.Of(0)
}

// over wants both in form, and b not 0.
func over(a, b api.Rat) api.Rat {
	quotient, _ := rat.Quo(a, b)
	return quotient
}
