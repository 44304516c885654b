package pairup

import (
	"tableau/api"
	"tableau/rat"
	"tableau/stack"
)

// pair is the step by which the first column of an equation of two terms goes with it. Where the two come back, the column takes from the other one what leaned on a bound that was its own alone.
type pair struct {
	stack.Equation
	stack.Lent
	other int // the column that tells it
}

// Dual: the sign of the other column's reduced cost tells which of its bounds it needs.
func (p pair) Dual(at api.Point) api.Point {
	at = p.Equation.Dual(at)
	if p.Bears(at.Z[p.other]) {
		p.lay(at)
	}
	return at
}

// Basis: the first column rests where the other one did at a bound that was the first one's alone, and the other one is Basic.
func (p pair) Basis(c stack.Corner) stack.Corner {
	c = p.Equation.Basis(c)
	if p.Rest(c.Point.Z[p.other], &c.Basis.Cols[p.other], &c.Basis.Cols[p.Col]) {
		p.lay(c.Point)
	}
	return c
}

// Cert: the first column takes over the multipliers of its bounds, and the equation bears less of it by that.
func (p pair) Cert(c api.Cert) api.Cert {
	c = p.Equation.Cert(c)
	lo, hi := p.Multipliers(&c.ColLo[p.other], &c.ColHi[p.other])
	held := minus(c.RowLo[p.Row], c.RowHi[p.Row])
	c.RowLo[p.Row], c.RowHi[p.Row] = stack.Sides(minus(held, over(minus(lo, hi), p.A)))
	c.ColLo[p.Col], c.ColHi[p.Col] = lo, hi
	return c
}

// lay lays the other column's reduced cost on the first one, by the equation, in at's own lists.
func (p pair) lay(at api.Point) {
	at.Z[p.Col], at.Z[p.other] = p.Share(at.Z[p.other]), rat.Of(0)
	at.Y[p.Row] = minus(at.Y[p.Row], over(at.Z[p.Col], p.A))
}

// minus wants both in form.
func minus(a, b api.Rat) api.Rat {
	difference, _ := rat.Sub(a, b)
	return difference
}

// over wants both in form, and b not 0.
func over(a, b api.Rat) api.Rat {
	quotient, _ := rat.Quo(a, b)
	return quotient
}
