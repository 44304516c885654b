package dominate_test

import (
	"math/big"
	"slices"

	"tableau/api"
)

// The chapter's words, with the library's numbers.

// moved: the bound, so much higher.
func moved(e api.Ext, by *big.Rat) api.Ext {
	if e.Inf != 0 {
		return e
	}
	return api.Ext{V: fromBig(by.Add(toBig(e.V), by))}
}

// without: column place, whose variable is v, goes.
func without(m api.Model, place int, v *big.Rat) api.Model {
	out := api.Model{Offset: fromBig(new(big.Rat).Add(toBig(m.Offset), new(big.Rat).Mul(v, toBig(m.Cols[place].Cost))))}
	out.Cols = slices.Delete(slices.Clone(m.Cols), place, place+1)
	for _, r := range m.Rows {
		kept := api.Row{Name: r.Name, Lo: r.Lo, Hi: r.Hi}
		for _, t := range r.Terms {
			switch {
			case t.Col < place:
				kept.Terms = append(kept.Terms, t)
			case t.Col > place:
				kept.Terms = append(kept.Terms, api.Term{Col: t.Col - 1, A: t.A})
			default:
				shift := new(big.Rat).Mul(toBig(t.A), v)
				shift.Neg(shift)
				kept.Lo, kept.Hi = moved(r.Lo, new(big.Rat).Set(shift)), moved(r.Hi, shift)
			}
		}
		out.Rows = append(out.Rows, kept)
	}
	return out
}

// every: does this hold of each term of the column, and of its row?
func every(m api.Model, col int, holds func(a *big.Rat, r api.Row) bool) bool {
	for _, r := range m.Rows {
		for _, t := range r.Terms {
			if t.Col == col && !holds(toBig(t.A), r) {
				return false
			}
		}
	}
	return true
}

func mayFall(m api.Model, col int) bool {
	return every(m, col, func(a *big.Rat, r api.Row) bool {
		return a.Sign() > 0 && r.Lo.Inf == -1 || a.Sign() < 0 && r.Hi.Inf == 1
	})
}

func mayRise(m api.Model, col int) bool {
	return every(m, col, func(a *big.Rat, r api.Row) bool {
		return a.Sign() > 0 && r.Hi.Inf == 1 || a.Sign() < 0 && r.Lo.Inf == -1
	})
}

func noTerms(m api.Model, col int) bool {
	return every(m, col, func(*big.Rat, api.Row) bool { return false })
}

// A verdict is what the chapter says of a column: by which of its cases, with which number it goes, or where D goes.
type verdict struct {
	at  int
	v   *big.Rat
	way int
}

func judge(m api.Model, col int) verdict {
	c := m.Cols[col]
	cost := toBig(c.Cost).Sign()
	if c.Lo.Inf == 0 && c.Hi.Inf == 0 && toBig(c.Lo.V).Cmp(toBig(c.Hi.V)) > 0 {
		return verdict{at: 1}
	}
	if mayFall(m, col) && cost >= 0 {
		if c.Lo.Inf == 0 {
			return verdict{at: 2, v: toBig(c.Lo.V)}
		} else if cost > 0 {
			return verdict{at: 2, way: -1}
		}
	}
	if mayRise(m, col) && cost <= 0 {
		if c.Hi.Inf == 0 {
			return verdict{at: 3, v: toBig(c.Hi.V)}
		} else if cost < 0 {
			return verdict{at: 3, way: 1}
		}
	}
	if noTerms(m, col) && cost == 0 {
		return verdict{at: 4, v: new(big.Rat)}
	}
	return verdict{at: 5}
}

// A course is what a sweep does by the chapter: the model that it leaves, the numbers of the columns that went, by their names, and D; nil, if it goes through. cases counts which of the chapter's cases applied.
type course struct {
	left  api.Model
	gone  map[string]*big.Rat
	d     []api.Rat
	cases [6]int
}

func swept(m api.Model) course {
	c := course{left: m, gone: map[string]*big.Rat{}}
	for place := 0; place < len(c.left.Cols); {
		j := judge(c.left, place)
		c.cases[j.at]++
		switch {
		case j.way != 0:
			c.d = noughts(len(c.left.Cols))
			c.d[place] = fromBig(big.NewRat(int64(j.way), 1))
			c.left.Offset = noughts(1)[0]
			c.left.Cols = slices.Clone(c.left.Cols)
			for i := range c.left.Cols {
				c.left.Cols[i].Cost = noughts(1)[0]
			}
			return c
		case j.v != nil:
			c.gone[c.left.Cols[place].Name] = j.v
			c.left = without(c.left, place, j.v)
		default:
			place++
		}
	}
	return c
}

func noughts(n int) []api.Rat {
	var out []api.Rat
	for range n {
		out = append(out, fromBig(new(big.Rat)))
	}
	return out
}
