package subst_test

import (
	"math/big"
	"slices"

	"tableau/api"
)

// The chapter's words, with the library's numbers.

func sum(a, b *big.Rat) *big.Rat     { return new(big.Rat).Add(a, b) }
func less(a, b *big.Rat) *big.Rat    { return new(big.Rat).Sub(a, b) }
func product(a, b *big.Rat) *big.Rat { return new(big.Rat).Mul(a, b) }
func ratio(a, b *big.Rat) *big.Rat   { return new(big.Rat).Quo(a, b) }

// moved: the bound, so much higher.
func moved(e api.Ext, by *big.Rat) api.Ext {
	if e.Inf != 0 {
		return e
	}
	return api.Ext{V: fromBig(sum(toBig(e.V), by))}
}

// dense: the coefficients of n columns.
func dense(terms []api.Term, n int) []*big.Rat {
	out := make([]*big.Rat, n)
	for i := range out {
		out[i] = new(big.Rat)
	}
	for _, t := range terms {
		out[t.Col] = toBig(t.A)
	}
	return out
}

// sparse: the terms of those that are not 0.
func sparse(x []*big.Rat) []api.Term {
	var out []api.Term
	for col, a := range x {
		if a.Sign() != 0 {
			out = append(out, api.Term{Col: col, A: fromBig(a)})
		}
	}
	return out
}

func isFree(c api.Col) bool { return c.Lo.Inf == -1 && c.Hi.Inf == 1 }

func isEquation(r api.Row) bool {
	return r.Lo.Inf == 0 && r.Hi.Inf == 0 && toBig(r.Lo.V).Cmp(toBig(r.Hi.V)) == 0
}

// told: the first free column with a term in the row, if that is an equation; else -1.
func told(m api.Model, r api.Row) int {
	if isEquation(r) {
		for col, a := range dense(r.Terms, len(m.Cols)) {
			if a.Sign() != 0 && isFree(m.Cols[col]) {
				return col
			}
		}
	}
	return -1
}

// A gone column is one that went, by its name, and what tells it: (r less the sum of b x[name] over the others) / a.
type gone struct {
	name   string
	r, a   *big.Rat
	others map[string]*big.Rat
}

// without: the model that is left where the equation at that place and its column j go.
func without(m api.Model, place, j int) (api.Model, gone) {
	n := len(m.Cols)
	e := dense(m.Rows[place].Terms, n)
	r, a, cost := toBig(m.Rows[place].Lo.V), e[j], toBig(m.Cols[j].Cost)
	out := api.Model{Offset: fromBig(sum(toBig(m.Offset), ratio(product(cost, r), a)))}
	g := gone{name: m.Cols[j].Name, r: r, a: a, others: map[string]*big.Rat{}}
	for k, c := range m.Cols {
		if k != j {
			g.others[c.Name] = e[k]
			c.Cost = fromBig(less(toBig(c.Cost), ratio(product(cost, e[k]), a)))
			out.Cols = append(out.Cols, c)
		}
	}
	for i, row := range m.Rows {
		if i == place {
			continue
		}
		x := dense(row.Terms, n)
		if q := x[j]; q.Sign() != 0 {
			by := less(new(big.Rat), ratio(product(q, r), a))
			row.Lo, row.Hi = moved(row.Lo, by), moved(row.Hi, by)
			for k := range x {
				x[k] = less(x[k], ratio(product(q, e[k]), a))
			}
		}
		row.Terms = sparse(slices.Delete(x, j, j+1))
		out.Rows = append(out.Rows, row)
	}
	return out, g
}

// swept: the model that a sweep leaves, and the columns that went, in their order.
func swept(m api.Model) (api.Model, []gone) {
	var list []gone
	for place := 0; place < len(m.Rows); {
		j := told(m, m.Rows[place])
		if j < 0 {
			place++
			continue
		}
		var g gone
		m, g = without(m, place, j)
		list = append(list, g)
	}
	return m, list
}

// back: numbers for all columns of m, by the chapter, of those of the columns that are left, by their names; as a direction each r is 0.
func back(m api.Model, list []gone, x map[string]*big.Rat, direction bool) []api.Rat {
	for _, g := range slices.Backward(list) {
		v := g.r
		if direction {
			v = new(big.Rat)
		}
		for name, b := range g.others {
			v = less(v, product(b, x[name]))
		}
		x[g.name] = ratio(v, g.a)
	}
	var out []api.Rat
	for _, c := range m.Cols {
		out = append(out, fromBig(x[c.Name]))
	}
	return out
}
