package simplex

import (
	"slices"

	"tableau/api"
	"tableau/point"
	"tableau/rat"
)

// numbers answers those of the columns, in new memory.
func (t *table) numbers() []api.Rat {
	var x []api.Rat
	for place := range t.m.Cols {
		x = append(x, rat.Copy(t.at[place]))
	}
	return x
}

// shares answers for each place how much of its number there is in what is aimed at: of costs these are the reduced costs of columns and the multipliers of rows.
func (t *table) shares() []api.Rat {
	list := noughts(len(t.lo))
	for slot, place := range t.others {
		list[place] = t.aim.share(slot)
	}
	return list
}

func (t *table) optimal() api.Answer {
	n, shares := len(t.m.Cols), t.shares()
	a := api.Answer{Status: api.Optimal}
	a.Basis = api.Basis{Cols: slices.Clone(t.status[:n]), Rows: slices.Clone(t.status[n:])}
	a.Point = api.Point{X: t.numbers(), Y: slices.Clone(shares[n:]), Z: slices.Clone(shares[:n])}
	a.Value, _ = point.Value(t.m, a.Point.X)
	return a
}

// infeasible wants a sum of what bounds are broken by that can't be made less: for all numbers that keep the bounds which its shares lean on it is as great as it is here, or greater. So with those bounds the broken ones can't be kept.
func (t *table) infeasible() api.Answer {
	lo, hi := noughts(len(t.lo)), noughts(len(t.lo))
	for place, share := range t.shares() {
		switch {
		case t.off[place] < 0:
			lo[place] = rat.Of(1)
		case t.off[place] > 0:
			hi[place] = rat.Of(1)
		case share.Neg:
			hi[place] = negative(share)
		default:
			lo[place] = share
		}
	}
	n := len(t.m.Cols)
	c := api.Cert{RowLo: slices.Clone(lo[n:]), RowHi: slices.Clone(hi[n:]), ColLo: slices.Clone(lo[:n]), ColHi: slices.Clone(hi[:n])}
	return api.Answer{Status: api.Infeasible, Cert: c}
}

func (t *table) unbounded(s step) api.Answer {
	d := slices.Clone(t.paces(s)[:len(t.m.Cols)])
	return api.Answer{Status: api.Unbounded, Ray: api.Ray{X: t.numbers(), D: d}}
}
