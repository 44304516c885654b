package single_test

import (
	"math/big"
	"slices"

	"tableau/api"
)

// The chapter's words, with the library's numbers. An infinite bound is nil.

func toBound(e api.Ext) *big.Rat {
	if e.Inf != 0 {
		return nil
	}
	return toBig(e.V)
}

// fromBound: inf says which infinity a nil is.
func fromBound(v *big.Rat, inf int) api.Ext {
	if v == nil {
		return api.Ext{Inf: inf, V: fromBig(new(big.Rat))}
	}
	return api.Ext{V: fromBig(v)}
}

func over(v, a *big.Rat) *big.Rat {
	if v == nil {
		return nil
	}
	return new(big.Rat).Quo(v, a)
}

// stricter: the greater of two lower bounds, if way is 1; the lesser of two upper ones, if it is -1.
func stricter(v, w *big.Rat, way int) *big.Rat {
	if v == nil || w != nil && w.Cmp(v) == way {
		return w
	}
	return v
}

// swept: the model that a sweep leaves, and the place of the row at which it ended; -1, if it went through.
func swept(m api.Model) (api.Model, int) {
	m.Cols, m.Rows = slices.Clone(m.Cols), slices.Clone(m.Rows)
	for place := 0; place < len(m.Rows); {
		r := m.Rows[place]
		lo, hi := toBound(r.Lo), toBound(r.Hi)
		switch {
		case len(r.Terms) == 0 && (lo != nil && lo.Sign() > 0 || hi != nil && hi.Sign() < 0):
			return m, place
		case len(r.Terms) == 1:
			a, c := toBig(r.Terms[0].A), &m.Cols[r.Terms[0].Col]
			lo, hi = over(lo, a), over(hi, a)
			if a.Sign() < 0 {
				lo, hi = hi, lo
			}
			c.Lo, c.Hi = fromBound(stricter(toBound(c.Lo), lo, 1), -1), fromBound(stricter(toBound(c.Hi), hi, -1), 1)
		case len(r.Terms) > 1:
			place++
			continue
		}
		m.Rows = slices.Delete(m.Rows, place, place+1)
	}
	return m, -1
}

// shown: the outcome's certificate by the chapter, where the sweep ended at that row.
func shown(m api.Model, place int) api.Cert {
	n, k := len(m.Cols), len(m.Rows)
	c := api.Cert{RowLo: noughts(k), RowHi: noughts(k), ColLo: noughts(n), ColHi: noughts(n)}
	if lo := toBound(m.Rows[place].Lo); lo != nil && lo.Sign() > 0 {
		c.RowLo[place] = nums(1)[0]
	} else {
		c.RowHi[place] = nums(1)[0]
	}
	return c
}
