package sample

import (
	"slices"

	"tableau/api"
	"tableau/rat"
)

// Stretched: the same model in other units, so that its numbers are long: all variables, all costs and each row times a number above 0. What p has of it is told in these units, too: a KKT point stays one, and an optimal basis stays the same.
func Stretched(m api.Model, p api.Point) (api.Model, api.Point) {
	wide := api.Rat{Num: []uint64{1, 0, 5}, Den: []uint64{9, 7}}
	dear := api.Rat{Num: []uint64{7}, Den: []uint64{1<<63 + 9, 1, 3}}
	q := api.Point{X: scaled(p.X, wide), Y: scaled(p.Y, dear), Z: scaled(p.Z, dear)}
	out := api.Model{Offset: times(times(m.Offset, wide), dear), Cols: slices.Clone(m.Cols), Rows: slices.Clone(m.Rows)}
	for j, c := range m.Cols {
		out.Cols[j] = api.Col{Name: c.Name, Cost: times(c.Cost, dear), Lo: stretched(c.Lo, wide), Hi: stretched(c.Hi, wide)}
	}
	for i, r := range m.Rows {
		high, _ := rat.Quo(api.Rat{Num: []uint64{3, uint64(i) + 1}, Den: []uint64{1}}, Frac(i+2, 1))
		own := times(wide, high)
		out.Rows[i] = api.Row{Name: r.Name, Lo: stretched(r.Lo, own), Hi: stretched(r.Hi, own)}
		for _, t := range r.Terms {
			out.Rows[i].Terms = append(out.Rows[i].Terms, api.Term{Col: t.Col, A: times(t.A, high)})
		}
		if i < len(q.Y) {
			q.Y[i], _ = rat.Quo(q.Y[i], high)
		}
	}
	return out, q
}

// stretched: an infinity stays.
func stretched(x api.Ext, by api.Rat) api.Ext { return api.Ext{Inf: x.Inf, V: times(x.V, by)} }

func scaled(list []api.Rat, by api.Rat) []api.Rat {
	var out []api.Rat
	for _, r := range list {
		out = append(out, times(r, by))
	}
	return out
}

func times(a, b api.Rat) api.Rat { return plusTimes(Frac(0, 1), a, b) }
