package fixed_test

import (
	"math/big"
	"slices"

	"tableau/api"
)

// The chapter's words, with the library's numbers.

// moved: the bound, so much higher.
func moved(e api.Ext, by *big.Rat) api.Ext {
	if e.Inf != 0 {
		return e
	}
	return api.Ext{V: fromBig(by.Add(toBig(e.V), by))}
}

// without: column place, whose variable is v, goes.
func without(m api.Model, place int, v *big.Rat) api.Model {
	out := api.Model{Offset: fromBig(new(big.Rat).Add(toBig(m.Offset), new(big.Rat).Mul(v, toBig(m.Cols[place].Cost))))}
	out.Cols = slices.Delete(slices.Clone(m.Cols), place, place+1)
	for _, r := range m.Rows {
		kept := api.Row{Name: r.Name, Lo: r.Lo, Hi: r.Hi}
		for _, t := range r.Terms {
			switch {
			case t.Col < place:
				kept.Terms = append(kept.Terms, t)
			case t.Col > place:
				kept.Terms = append(kept.Terms, api.Term{Col: t.Col - 1, A: t.A})
			default:
				shift := new(big.Rat).Mul(toBig(t.A), v)
				shift.Neg(shift)
				kept.Lo, kept.Hi = moved(r.Lo, new(big.Rat).Set(shift)), moved(r.Hi, shift)
			}
		}
		out.Rows = append(out.Rows, kept)
	}
	return out
}

// swept: the model that a sweep leaves, and the numbers of the columns that went, by their names.
func swept(m api.Model) (api.Model, map[string]*big.Rat) {
	gone := map[string]*big.Rat{}
	for place := 0; place < len(m.Cols); {
		c := m.Cols[place]
		if c.Lo.Inf != 0 || c.Hi.Inf != 0 || toBig(c.Lo.V).Cmp(toBig(c.Hi.V)) != 0 {
			place++
			continue
		}
		gone[c.Name] = toBig(c.Lo.V)
		m = without(m, place, gone[c.Name])
	}
	return m, gone
}
