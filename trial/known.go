// Package trial is for the tests of the passes: it finds much that is known of a small model, and asks whether a stack takes it back as the document promises.
//
// What it hands to the layers below is in form: their errors tell of faults of a pass alone.
package trial

import (
	"slices"

	"tableau/api"
	"tableau/basis"
	"tableau/point"
	"tableau/rat"
	"tableau/ray"
	"tableau/simplex"
	"tableau/stack"
)

// Known is what is known of a model.
type Known struct {
	Points [][]api.Rat
	Dirs   [][]api.Rat // they recede
	Kkts   []api.Point
	Bases  []stack.Corner // optimal ones
	Certs  []api.Cert
}

// small: so many columns and rows in all have few enough bases to go through all of them.
const small = 8

// Of: of a small model each point of a basis, each optimal basis, and the answers that simplex gives from any of its bases; of a greater one from the slack basis alone. Beside them stand mixtures of them.
func Of(m api.Model) Known {
	var k Known
	hints := []api.Basis{{}}
	if len(m.Cols)+len(m.Rows) <= small {
		hints = append(hints, bases(m)...)
	}
	for i, b := range hints {
		k.corner(m, b)
		if i%7 == 0 {
			k.answer(m, b)
		}
	}
	k.directions(m)
	k.mixPoints()
	k.mixKkts()
	for _, c := range slices.Clone(k.Certs) {
		k.Certs = append(k.Certs, twoSided(m, c))
	}
	return k
}

// corner takes the basis's point, if it is one, and the basis, if it is optimal.
func (k *Known) corner(m api.Model, b api.Basis) {
	p, e := basis.Point(m, b)
	if e != api.OK {
		return
	}
	if is, _ := point.Feasible(m, p.X); is {
		k.Points = append(k.Points, p.X)
	}
	if is, _ := basis.Optimal(m, b, p); is {
		k.Bases = append(k.Bases, stack.Corner{Basis: b, Point: p})
	}
}

// answer takes what shows the answer that simplex gives from the basis.
func (k *Known) answer(m api.Model, b api.Basis) {
	a, _ := simplex.From(m, b)
	switch a.Status {
	case api.Optimal:
		k.Bases = append(k.Bases, stack.Corner{Basis: a.Basis, Point: a.Point})
		k.Points = append(k.Points, a.Point.X)
	case api.Infeasible:
		k.Certs = append(k.Certs, a.Cert)
	case api.Unbounded:
		k.Points, k.Dirs = append(k.Points, a.Ray.X), append(k.Dirs, a.Ray.D)
	}
}

// directions takes those that recede of all whose numbers are -1, 0 and 1; of more than four columns only those in which one column moves.
func (k *Known) directions(m api.Model) {
	n := len(m.Cols)
	take := func(d []api.Rat) {
		if is, _ := ray.Recedes(m, d); is {
			k.Dirs = append(k.Dirs, d)
		}
	}
	if n > 4 {
		for j := range n {
			for _, step := range []int{-1, 1} {
				d := noughts(n)
				d[j] = rat.Of(step)
				take(d)
			}
		}
		return
	}
	count := 1
	for range n {
		count *= 3
	}
	for code := range count {
		d := noughts(n)
		for j := range d {
			d[j] = rat.Of(code%3 - 1)
			code /= 3
		}
		take(d)
	}
}

// mixPoints puts points between points, and beyond them in a direction that recedes.
func (k *Known) mixPoints() {
	for i, x := range slices.Clone(k.Points) {
		k.Points = append(k.Points, middle(x, k.Points[(i*5+3)%len(k.Points)]))
		if len(k.Dirs) > 0 {
			beyond, _ := ray.Along(api.Ray{X: x, D: k.Dirs[(i*3+1)%len(k.Dirs)]}, rat.Of(2))
			k.Points = append(k.Points, beyond)
		}
	}
}

// mixKkts puts the numbers of one optimal basis to the multipliers of another one, and takes numbers between: a KKT point is any least point with any such multipliers.
func (k *Known) mixKkts() {
	for i, c := range k.Bases {
		k.Kkts = append(k.Kkts, c.Point)
		for _, step := range []int{1, 3} {
			p, q := c.Point, k.Bases[(i*2+step)%len(k.Bases)].Point
			k.Kkts = append(k.Kkts, api.Point{X: p.X, Y: q.Y, Z: q.Z}, api.Point{X: middle(p.X, q.X), Y: middle(p.Y, q.Y), Z: middle(p.Z, q.Z)})
		}
	}
}

// bases: all lists of statuses of m that are a basis.
func bases(m api.Model) []api.Basis {
	var out []api.Basis
	n, k := len(m.Cols), len(m.Rows)
	list := make([]api.Status, n+k)
	var fill func(place, basics int)
	fill = func(place, basics int) {
		if place < n+k {
			for _, status := range statuses(m, place) {
				list[place] = status
				if status == api.Basic {
					fill(place+1, basics+1)
				} else {
					fill(place+1, basics)
				}
			}
			return
		}
		b := api.Basis{Cols: slices.Clone(list[:n]), Rows: slices.Clone(list[n:])}
		if basics != k {
			return
		}
		if is, _ := basis.Valid(m, b); is {
			out = append(out, b)
		}
	}
	fill(0, 0)
	return out
}

// statuses: those that a column may have, or a row, which stand behind the columns.
func statuses(m api.Model, place int) []api.Status {
	n := len(m.Cols)
	out := []api.Status{api.Basic}
	var lo, hi api.Ext
	if place < n {
		lo, hi = m.Cols[place].Lo, m.Cols[place].Hi
	} else {
		lo, hi = m.Rows[place-n].Lo, m.Rows[place-n].Hi
	}
	if lo.Inf == 0 {
		out = append(out, api.Lower)
	}
	if hi.Inf == 0 {
		out = append(out, api.Upper)
	}
	if place < n && len(out) == 1 {
		out = append(out, api.Free)
	}
	return out
}

// twoSided: a certificate with multipliers on both sides wherever both bounds are numbers.
func twoSided(m api.Model, c api.Cert) api.Cert {
	shows, takes := rat.Of(0), rat.Of(0)
	var sides [][2]*api.Rat
	out := api.Cert{RowLo: slices.Clone(c.RowLo), RowHi: slices.Clone(c.RowHi), ColLo: slices.Clone(c.ColLo), ColHi: slices.Clone(c.ColHi)}
	visit := func(lo, hi api.Ext, byLo, byHi *api.Rat) {
		shows = plus(shows, plus(times(*byLo, lo.V), times(rat.Of(-1), times(*byHi, hi.V))))
		if lo.Inf == 0 && hi.Inf == 0 {
			takes = plus(takes, plus(hi.V, times(rat.Of(-1), lo.V)))
			sides = append(sides, [2]*api.Rat{byLo, byHi})
		}
	}
	for i, r := range m.Rows {
		visit(r.Lo, r.Hi, &out.RowLo[i], &out.RowHi[i])
	}
	for j, col := range m.Cols {
		visit(col.Lo, col.Hi, &out.ColLo[j], &out.ColHi[j])
	}
	if takes.Neg {
		takes = rat.Of(0)
	}
	// Times this, it shows more than 1 on both sides of each pair takes away.
	factor, _ := rat.Quo(plus(takes, rat.Of(1)), shows)
	for _, list := range [][]api.Rat{out.RowLo, out.RowHi, out.ColLo, out.ColHi} {
		for i := range list {
			list[i] = times(list[i], factor)
		}
	}
	for _, pair := range sides {
		*pair[0], *pair[1] = plus(*pair[0], rat.Of(1)), plus(*pair[1], rat.Of(1))
	}
	return out
}

// middle: the numbers between those of two lists.
func middle(x, y []api.Rat) []api.Rat {
	out := make([]api.Rat, len(x))
	for i := range x {
		out[i], _ = rat.Quo(plus(x[i], y[i]), rat.Of(2))
	}
	return out
}

func noughts(n int) []api.Rat {
	list := make([]api.Rat, n)
	for place := range list {
		list[place] = rat.Of(0)
	}
	return list
}

// plus wants both in form.
func plus(a, b api.Rat) api.Rat {
	sum, _ := rat.Add(a, b)
	return sum
}

// times wants both in form.
func times(a, b api.Rat) api.Rat {
	product, _ := rat.Mul(a, b)
	return product
}
