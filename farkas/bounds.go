package farkas

import (
	"tableau/api"
	"tableau/model"
	"tableau/point"
	"tableau/rat"
)

// A bound is one side of a row or of a column: the sum of the terms is at least at, or at most, if it is an upper one.
type bound struct {
	by    api.Rat // its multiplier
	at    api.Ext
	upper bool
	terms []api.Term
}

// weight answers by what the bound is multiplied where each of them is to say "at least".
func (b bound) weight() api.Rat {
	if !b.upper {
		return b.by
	}
	w, _ := rat.Neg(b.by)
	return w
}

// through hands all bounds of m with their multipliers to visit. It wants what check asks for.
func through(m api.Model, c api.Cert, visit func(b bound)) {
	for place, r := range m.Rows {
		visit(bound{by: c.RowLo[place], at: r.Lo, terms: r.Terms})
		visit(bound{by: c.RowHi[place], at: r.Hi, terms: r.Terms, upper: true})
	}
	for place, col := range m.Cols {
		self := []api.Term{{Col: place, A: rat.Of(1)}}
		visit(bound{by: c.ColLo[place], at: col.Lo, terms: self})
		visit(bound{by: c.ColHi[place], at: col.Hi, terms: self, upper: true})
	}
}

// check asks for a multiplier in form for each bound.
func check(m api.Model, c api.Cert) api.Errno {
	k, n := len(m.Rows), len(m.Cols)
	return model.Least(point.Numbers(c.RowLo, k), point.Numbers(c.RowHi, k), point.Numbers(c.ColLo, n), point.Numbers(c.ColHi, n))
}

// anyInfinite: has an infinite bound a multiplier other than 0?
func anyInfinite(m api.Model, c api.Cert) bool {
	found := false
	through(m, c, func(b bound) { found = found || b.at.Inf != 0 && !isZero(b.by) })
	return found
}

// anyBelow: is a multiplier below 0?
func anyBelow(m api.Model, c api.Cert) bool {
	found := false
	through(m, c, func(b bound) { found = found || b.by.Neg })
	return found
}

// isZero wants r in form.
func isZero(r api.Rat) bool { return len(r.Num) == 0 }

func allZero(list []api.Rat) bool {
	for _, r := range list {
		if !isZero(r) {
			return false
		}
	}
	return true
}

// noughts: each with memory of its own.
func noughts(n int) []api.Rat {
	list := make([]api.Rat, n)
	for place := range list {
		list[place] = rat.Of(0)
	}
	return list
}

// plus wants both in form.
func plus(a, b api.Rat) api.Rat {
	sum, _ := rat.Add(a, b)
	return sum
}

// times wants both in form.
func times(a, b api.Rat) api.Rat {
	product, _ := rat.Mul(a, b)
	return product
}
