package basis

import (
	"tableau/api"
	"tableau/rat"
)

// stands: has b a status for each column and row of m that it may have, and is it Basic as often as there are rows?
func stands(m api.Model, b api.Basis) bool {
	if len(b.Cols) != len(m.Cols) || len(b.Rows) != len(m.Rows) {
		return false
	}
	for place, c := range m.Cols {
		if !may(b.Cols[place], c.Lo, c.Hi) {
			return false
		}
	}
	for place, r := range m.Rows {
		if b.Rows[place] == api.Free || !may(b.Rows[place], r.Lo, r.Hi) {
			return false
		}
	}
	return len(basics(b.Cols))+len(basics(b.Rows)) == len(m.Rows)
}

// may: has a column with these bounds ever this status? One that is not in form it never has.
func may(s api.Status, lo, hi api.Ext) bool {
	switch s {
	case api.Basic:
		return true
	case api.Lower:
		return lo.Inf == 0
	case api.Upper:
		return hi.Inf == 0
	case api.Free:
		return lo.Inf != 0 && hi.Inf != 0
	}
	return false
}

// held answers the number that the status sets, in new memory; 0, where it sets none.
func held(s api.Status, lo, hi api.Ext) api.Rat {
	switch s {
	case api.Lower:
		return rat.Copy(lo.V)
	case api.Upper:
		return rat.Copy(hi.V)
	}
	return rat.Of(0)
}

// resting answers the status of a column that is not Basic, its lower bound ahead of the upper one.
func resting(lo, hi api.Ext) api.Status {
	switch {
	case lo.Inf == 0:
		return api.Lower
	case hi.Inf == 0:
		return api.Upper
	}
	return api.Free
}

// basics answers the places that are Basic, others those that aren't.
func basics(list []api.Status) []int {
	return places(list, func(s api.Status) bool { return s == api.Basic })
}

func others(list []api.Status) []int {
	return places(list, func(s api.Status) bool { return s != api.Basic })
}

func places(list []api.Status, is func(s api.Status) bool) []int {
	var out []int
	for place, s := range list {
		if is(s) {
			out = append(out, place)
		}
	}
	return out
}
