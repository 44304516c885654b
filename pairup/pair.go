package pairup

import (
	"tableau/api"
	"tableau/ext"
	"tableau/rat"
	"tableau/stack"
)

// pair is the step by which the first column of an equation of two terms goes with it. Where the two come back, the column takes from the other one what leaned on a bound that was its own alone.
type pair struct {
	stack.Equation
	other          int     // the column that tells it
	b              api.Rat // the equation's coefficient of that
	tookLo, tookHi bool    // the bound that comes from the first column is stricter than the other one's own
}

// ends: between which bounds the equation, with the number r, keeps the other column, if the first one is kept between its own.
func (p pair) ends(first api.Col, r api.Rat) (lo, hi api.Ext) {
	ratio, _ := rat.Neg(over(p.A, p.b))
	end := func(bound api.Ext) api.Ext {
		bound, _ = ext.Scale(bound, ratio)
		bound, _ = ext.Shift(bound, over(r, p.b))
		return bound
	}
	if p.against() {
		return end(first.Hi), end(first.Lo)
	}
	return end(first.Lo), end(first.Hi)
}

// against: does the one column fall as the other one rises?
func (p pair) against() bool { return p.A.Neg == p.b.Neg }

// Dual: the sign of the other column's reduced cost tells which of its bounds it needs.
func (p pair) Dual(at api.Point) api.Point {
	at = p.Equation.Dual(at)
	if p.took(stack.Leans(at.Z[p.other], api.Basic)) {
		p.lay(at)
	}
	return at
}

// Basis: the other column can't rest at a bound that was the first one's alone, even where its reduced cost is 0: the first one rests there, and the other one is Basic. (The reduced cost of a Basic or a Free column is 0: it stays what it is.)
func (p pair) Basis(c stack.Corner) stack.Corner {
	c = p.Equation.Basis(c)
	cols := c.Basis.Cols
	side := stack.Leans(c.Point.Z[p.other], cols[p.other])
	cols[p.other] = side
	if p.took(side) {
		cols[p.Col], cols[p.other] = p.side(side), api.Basic
		p.lay(c.Point)
	}
	return c
}

// Cert: the first column's bounds take over the multipliers of those that came from them, and the equation takes up the rest of both columns' coefficients.
func (p pair) Cert(c api.Cert) api.Cert {
	c = p.Equation.Cert(c)
	lo, hi := rat.Of(0), rat.Of(0)
	if p.tookLo {
		lo, c.ColLo[p.other] = c.ColLo[p.other], lo
	}
	if p.tookHi {
		hi, c.ColHi[p.other] = c.ColHi[p.other], hi
	}
	held := minus(c.RowLo[p.Row], c.RowHi[p.Row])
	c.RowLo[p.Row], c.RowHi[p.Row] = stack.Sides(plus(held, over(minus(lo, hi), p.b)))
	size := over(p.A, p.b)
	size.Neg = false
	if p.against() {
		lo, hi = hi, lo
	}
	c.ColLo[p.Col], c.ColHi[p.Col] = times(lo, size), times(hi, size)
	return c
}

// took: was the other column's bound of this side the first one's alone?
func (p pair) took(side api.Status) bool {
	return side == api.Lower && p.tookLo || side == api.Upper && p.tookHi
}

// side: at which of its bounds the first column is where the other one is at this one that came from it.
func (p pair) side(other api.Status) api.Status {
	if p.against() {
		return stack.Opposite(other)
	}
	return other
}

// lay lays the other column's reduced cost on the first one, by the equation, in at's own lists.
func (p pair) lay(at api.Point) {
	share := over(at.Z[p.other], p.b)
	at.Y[p.Row] = plus(at.Y[p.Row], share)
	at.Z[p.Col] = minus(rat.Of(0), times(p.A, share))
	at.Z[p.other] = rat.Of(0)
}

// plus wants both in form.
func plus(a, b api.Rat) api.Rat {
	sum, _ := rat.Add(a, b)
	return sum
}

// minus wants both in form.
func minus(a, b api.Rat) api.Rat {
	difference, _ := rat.Sub(a, b)
	return difference
}

// times wants both in form.
func times(a, b api.Rat) api.Rat {
	product, _ := rat.Mul(a, b)
	return product
}

// over wants both in form, and b not 0.
func over(a, b api.Rat) api.Rat {
	quotient, _ := rat.Quo(a, b)
	return quotient
}
