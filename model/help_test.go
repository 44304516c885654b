package model_test

import (
	"slices"

	"tableau/api"
)

func sameRat(a, b api.Rat) bool {
	return a.Neg == b.Neg && slices.Equal(a.Num, b.Num) && slices.Equal(a.Den, b.Den)
}

func sameExt(a, b api.Ext) bool { return a.Inf == b.Inf && sameRat(a.V, b.V) }

func sameTerms(v, w []api.Term) bool {
	return slices.EqualFunc(v, w, func(s, t api.Term) bool { return s.Col == t.Col && sameRat(s.A, t.A) })
}

func sameModel(a, b api.Model) bool {
	return sameRat(a.Offset, b.Offset) &&
		slices.EqualFunc(a.Cols, b.Cols, func(c, d api.Col) bool {
			return c.Name == d.Name && sameRat(c.Cost, d.Cost) && sameExt(c.Lo, d.Lo) && sameExt(c.Hi, d.Hi)
		}) &&
		slices.EqualFunc(a.Rows, b.Rows, func(r, s api.Row) bool {
			return r.Name == s.Name && sameExt(r.Lo, s.Lo) && sameExt(r.Hi, s.Hi) && sameTerms(r.Terms, s.Terms)
		})
}

// none: is it the zero value?
func none(m api.Model) bool {
	return !m.Offset.Neg && m.Offset.Num == nil && m.Offset.Den == nil && len(m.Cols) == 0 && len(m.Rows) == 0
}
