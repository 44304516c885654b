package twin_test

import (
	"math/big"
	"slices"

	"tableau/api"
)

// The chapter's words, with the library's numbers. An infinite bound is nil.

func toBound(e api.Ext) *big.Rat {
	if e.Inf != 0 {
		return nil
	}
	return toBig(e.V)
}

// fromBound: inf says which infinity a nil is.
func fromBound(v *big.Rat, inf int) api.Ext {
	if v == nil {
		return api.Ext{Inf: inf, V: fromBig(new(big.Rat))}
	}
	return api.Ext{V: fromBig(v)}
}

func sum(a, b *big.Rat) *big.Rat     { return new(big.Rat).Add(a, b) }
func product(a, b *big.Rat) *big.Rat { return new(big.Rat).Mul(a, b) }

// over: nil of nil.
func over(a, b *big.Rat) *big.Rat {
	if a == nil {
		return nil
	}
	return new(big.Rat).Quo(a, b)
}

// stricter: the greater of two lower bounds, if way is 1; the lesser of two upper ones, if it is -1.
func stricter(v, w *big.Rat, way int) *big.Rat {
	if v == nil || w != nil && w.Cmp(v) == way {
		return w
	}
	return v
}

// entries: the numbers by their columns.
func entries(r api.Row) map[int]*big.Rat {
	out := map[int]*big.Rat{}
	for _, t := range r.Terms {
		out[t.Col] = toBig(t.A)
	}
	return out
}

// times: the number l by which the second row is l times the first one; nil, if there is none, or the first one has no terms.
func times(first, second api.Row) *big.Rat {
	x, y := entries(first), entries(second)
	var l *big.Rat
	for col, a := range x {
		b, there := y[col]
		if !there || l != nil && product(l, a).Cmp(b) != 0 {
			return nil
		}
		l = over(b, a)
	}
	if len(y) != len(x) {
		return nil
	}
	return l
}

// merged: the first row with the bounds that the second one, which is l times it, leaves it.
func merged(first, second api.Row, l *big.Rat) api.Row {
	least, most := over(toBound(second.Lo), l), over(toBound(second.Hi), l)
	if l.Sign() < 0 {
		least, most = most, least
	}
	first.Lo = fromBound(stricter(toBound(first.Lo), least, 1), -1)
	first.Hi = fromBound(stricter(toBound(first.Hi), most, -1), 1)
	return first
}

// next: the place of the first row behind that place that is a multiple of the one there; -1, if there is none.
func next(m api.Model, place int) int {
	for k := place + 1; k < len(m.Rows); k++ {
		if times(m.Rows[place], m.Rows[k]) != nil {
			return k
		}
	}
	return -1
}

// swept: the model that a sweep leaves, and the names of the rows that went, in their order.
func swept(m api.Model) (api.Model, []string) {
	var gone []string
	m.Rows = slices.Clone(m.Rows)
	for place := 0; place < len(m.Rows); {
		k := next(m, place)
		if k < 0 {
			place++
			continue
		}
		gone = append(gone, m.Rows[k].Name)
		m.Rows[place] = merged(m.Rows[place], m.Rows[k], times(m.Rows[place], m.Rows[k]))
		m.Rows = slices.Delete(m.Rows, k, k+1)
	}
	return m, gone
}
