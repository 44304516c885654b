package dual

import (
	"slices"

	"tableau/api"
	"tableau/ext"
	"tableau/point"
	"tableau/rat"
)

// side answers the bound that a multiplier leans on: Lo above 0, Hi below; at 0 there is none.
func side(y api.Rat, lo, hi api.Ext) (api.Ext, bool) {
	switch {
	case len(y.Num) == 0:
		return api.Ext{}, false
	case y.Neg:
		return hi, true
	}
	return lo, true
}

// allRest wants a point of m and its multipliers: does all that they lean on stand at its bound?
func allRest(m api.Model, p api.Point) bool {
	acts, _ := point.Activities(m, p.X)
	for place, r := range m.Rows {
		if !rests(p.Y[place], r.Lo, r.Hi, acts[place]) {
			return false
		}
	}
	for place, c := range m.Cols {
		if !rests(p.Z[place], c.Lo, c.Hi, p.X[place]) {
			return false
		}
	}
	return true
}

// rests: is there no bound that the multiplier leans on, or is the number at it?
func rests(y api.Rat, lo, hi api.Ext, at api.Rat) bool {
	on, leans := side(y, lo, hi)
	return !leans || on.Inf == 0 && sameRat(on.V, at)
}

// share answers the multiplier times the bound that it leans on. That is minus infinity for an infinite one, on either side.
func share(y api.Rat, lo, hi api.Ext) api.Ext {
	on, leans := side(y, lo, hi)
	if !leans {
		return api.Ext{V: rat.Of(0)}
	}
	product, _ := ext.Scale(on, y)
	return product
}

// sum answers the sum of any number of parts, none of which is infinity: so one that is infinite makes it minus infinity.
func sum(parts ...api.Ext) api.Ext {
	var values []api.Rat
	for _, part := range parts {
		if part.Inf != 0 {
			return ext.Low()
		}
		values = append(values, part.V)
	}
	return api.Ext{V: point.Sum(values...)}
}

// sameRat wants one of the two in form, which a number has but one.
func sameRat(a, b api.Rat) bool {
	return a.Neg == b.Neg && slices.Equal(a.Num, b.Num) && slices.Equal(a.Den, b.Den)
}

// times wants both in form.
func times(a, b api.Rat) api.Rat {
	product, _ := rat.Mul(a, b)
	return product
}
