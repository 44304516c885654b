package tighten

import (
	"tableau/api"
	"tableau/rat"
	"tableau/stack"
)

// tight is the step by which a bound of a column became the one that a row implies: where the column is at it, the row is at a bound of its own, and each of its other columns at the bound that is the farthest from it.
type tight struct {
	stack.Stays
	row   int
	end   end        // the row's bound
	terms []api.Term // the row's
	place int        // the column's among them
}

// Gone: nothing.
func (t tight) Gone() (cols, rows int) { return 0, 0 }

// Tightens: it does.
func (t tight) Tightens() bool { return true }

// Dual: where the column's reduced cost leans on the bound, the row bears it. What that adds to the reduced costs of the row's other columns leans on the bounds where they are.
func (t tight) Dual(p api.Point) api.Point {
	own := t.terms[t.place]
	z := p.Z[own.Col]
	if !t.end.of(own.A).leans(z) {
		return p
	}
	share, _ := rat.Quo(z, own.A)
	p.Y[t.row] = plus(p.Y[t.row], share)
	for _, o := range t.terms {
		p.Z[o.Col] = minus(p.Z[o.Col], times(share, o.A))
	}
	return p
}

// Basis is not asked: a stack with such a step has none to tell.
func (t tight) Basis(c stack.Corner) stack.Corner { return c }

// Cert: the row's bound, and those of its other columns that the bound was reckoned with, bear what the bound has.
func (t tight) Cert(c api.Cert) api.Cert {
	own := t.terms[t.place]
	bears := &pick(t.end.of(own.A), c.ColLo, c.ColHi)[own.Col]
	share, _ := rat.Quo(*bears, size(own.A))
	if len(share.Num) == 0 {
		return c
	}
	*bears = rat.Of(0)
	row := &pick(t.end, c.RowLo, c.RowHi)[t.row]
	*row = plus(*row, share)
	for place, o := range t.terms {
		if place != t.place {
			far := &pick(t.end.of(o.A).other(), c.ColLo, c.ColHi)[o.Col]
			*far = plus(*far, times(share, size(o.A)))
		}
	}
	return c
}

// size: without the sign. It keeps the limbs.
func size(r api.Rat) api.Rat {
	r.Neg = false
	return r
}

// plus wants both in form.
func plus(a, b api.Rat) api.Rat {
	sum, _ := rat.Add(a, b)
	return sum
}

// minus wants both in form.
func minus(a, b api.Rat) api.Rat {
	difference, _ := rat.Sub(a, b)
	return difference
}

// times wants both in form.
func times(a, b api.Rat) api.Rat {
	product, _ := rat.Mul(a, b)
	return product
}
