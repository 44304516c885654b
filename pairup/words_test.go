package pairup_test

import (
	"math/big"
	"slices"

	"tableau/api"
)

// The chapter's words, with the library's numbers. An infinite bound is nil.

func toBound(e api.Ext) *big.Rat {
	if e.Inf != 0 {
		return nil
	}
	return toBig(e.V)
}

// fromBound: inf says which infinity a nil is.
func fromBound(v *big.Rat, inf int) api.Ext {
	if v == nil {
		return api.Ext{Inf: inf, V: fromBig(new(big.Rat))}
	}
	return api.Ext{V: fromBig(v)}
}

func sum(a, b *big.Rat) *big.Rat     { return new(big.Rat).Add(a, b) }
func less(a, b *big.Rat) *big.Rat    { return new(big.Rat).Sub(a, b) }
func product(a, b *big.Rat) *big.Rat { return new(big.Rat).Mul(a, b) }
func ratio(a, b *big.Rat) *big.Rat   { return new(big.Rat).Quo(a, b) }

// told: what a x + b y = r says of x, y being v; nil of nil.
func told(r, a, b, v *big.Rat) *big.Rat {
	if v == nil {
		return nil
	}
	return ratio(less(r, product(b, v)), a)
}

// stricter: the greater of two lower bounds, if way is 1; the lesser of two upper ones, if it is -1.
func stricter(v, w *big.Rat, way int) *big.Rat {
	if v == nil || w != nil && w.Cmp(v) == way {
		return w
	}
	return v
}

// moved: the bound, so much higher.
func moved(e api.Ext, by *big.Rat) api.Ext {
	if e.Inf != 0 {
		return e
	}
	return api.Ext{V: fromBig(sum(toBig(e.V), by))}
}

// dense: the coefficients of n columns.
func dense(terms []api.Term, n int) []*big.Rat {
	out := make([]*big.Rat, n)
	for i := range out {
		out[i] = new(big.Rat)
	}
	for _, t := range terms {
		out[t.Col] = toBig(t.A)
	}
	return out
}

// sparse: the terms of those that are not 0.
func sparse(x []*big.Rat) []api.Term {
	var out []api.Term
	for col, a := range x {
		if a.Sign() != 0 {
			out = append(out, api.Term{Col: col, A: fromBig(a)})
		}
	}
	return out
}

// A toldBy is a column that went, by its name, and what tells it: (r - b x) / a, x being that of the column other.
type toldBy struct {
	name, other string
	r, a, b     *big.Rat
}

// isPair: is it an equation of two terms?
func isPair(r api.Row) bool {
	return len(r.Terms) == 2 && r.Lo.Inf == 0 && r.Hi.Inf == 0 && toBig(r.Lo.V).Cmp(toBig(r.Hi.V)) == 0
}

// paired: the model that is left where the equation of two terms at that place and its first column go.
func paired(m api.Model, place int) (api.Model, toldBy) {
	e := m.Rows[place]
	j, k := e.Terms[0].Col, e.Terms[1].Col
	r, a, b := toBig(e.Lo.V), toBig(e.Terms[0].A), toBig(e.Terms[1].A)
	n := len(m.Cols)
	out := api.Model{Offset: fromBig(sum(toBig(m.Offset), ratio(product(toBig(m.Cols[j].Cost), r), a))), Cols: slices.Clone(m.Cols)}
	for i, row := range m.Rows {
		if i == place {
			continue
		}
		x := dense(row.Terms, n)
		q := x[j]
		if q.Sign() != 0 {
			by := ratio(product(q, r), a)
			row.Lo, row.Hi = moved(row.Lo, by.Neg(by)), moved(row.Hi, by)
			x[k] = less(x[k], ratio(product(q, b), a))
		}
		row.Terms = sparse(slices.Delete(x, j, j+1))
		out.Rows = append(out.Rows, row)
	}
	c := &out.Cols[k]
	c.Cost = fromBig(less(toBig(c.Cost), ratio(product(toBig(m.Cols[j].Cost), b), a)))
	u, w := told(r, b, a, toBound(m.Cols[j].Lo)), told(r, b, a, toBound(m.Cols[j].Hi))
	lesser, greater := u, w
	if ratio(a, b).Sign() > 0 {
		lesser, greater = w, u
	}
	c.Lo, c.Hi = fromBound(stricter(toBound(c.Lo), lesser, 1), -1), fromBound(stricter(toBound(c.Hi), greater, -1), 1)
	out.Cols = slices.Delete(out.Cols, j, j+1)
	return out, toldBy{name: m.Cols[j].Name, other: m.Cols[k].Name, r: r, a: a, b: b}
}

// swept: the model that a sweep leaves, and the columns that went, in their order.
func swept(m api.Model) (api.Model, []toldBy) {
	var gone []toldBy
	for place := 0; place < len(m.Rows); {
		if !isPair(m.Rows[place]) {
			place++
			continue
		}
		var t toldBy
		m, t = paired(m, place)
		gone = append(gone, t)
	}
	return m, gone
}

// back: numbers for all columns of m, by the chapter, of those of the columns that are left, by their names; as a direction each r is 0.
func back(m api.Model, gone []toldBy, x map[string]*big.Rat, direction bool) []api.Rat {
	for _, t := range slices.Backward(gone) {
		r := t.r
		if direction {
			r = new(big.Rat)
		}
		x[t.name] = told(r, t.a, t.b, x[t.other])
	}
	var out []api.Rat
	for _, c := range m.Cols {
		out = append(out, fromBig(x[c.Name]))
	}
	return out
}
