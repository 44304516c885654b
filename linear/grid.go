package linear

import (
	"tableau/api"
	"tableau/nat"
	"tableau/rat"
	"tableau/whole"
)

// A grid is a matrix with each row multiplied so that its numbers are whole ones without a common divisor. Its rows are replaced, their numbers never changed: so limbs may stand in it more than once.
type grid struct {
	rows  [][]api.Whole
	scale []api.Rat // what each row was multiplied by
	rank  int       // so many rows at the top have their pivots
	odd   bool      // rows changed places an odd number of times
}

func newGrid(a [][]api.Rat) *grid {
	g := &grid{}
	for _, row := range a {
		m := commonMultiple(row)
		numbers, c := shortened(multiplied(row, m))
		g.rows = append(g.rows, numbers)
		g.scale = append(g.scale, quotient(m, c))
	}
	return g
}

// commonMultiple answers the least one of the denominators.
func commonMultiple(row []api.Rat) api.Whole {
	m := []uint64{1}
	for _, r := range row {
		g, _ := nat.Gcd(m, r.Den)
		rest, _, _ := nat.DivMod(r.Den, g)
		m, _ = nat.Mul(m, rest)
	}
	return api.Whole{Mag: m}
}

// multiplied wants an m that all denominators divide.
func multiplied(row []api.Rat, m api.Whole) []api.Whole {
	out := make([]api.Whole, len(row))
	for i, r := range row {
		out[i] = times(api.Whole{Neg: r.Neg, Mag: r.Num}, over(m, api.Whole{Mag: r.Den}))
	}
	return out
}

// shortened answers the row over its greatest common divisor, which stands beside it; of noughts alone that is 1.
func shortened(row []api.Whole) ([]api.Whole, api.Whole) {
	c := divisor(row)
	if isOne(c) {
		return row, c
	}
	out := make([]api.Whole, len(row))
	for i, a := range row {
		out[i] = over(a, c)
	}
	return out, c
}

func divisor(row []api.Whole) api.Whole {
	var c api.Whole
	for _, a := range row {
		c = common(c, a)
		if isOne(c) {
			return c
		}
	}
	if isZero(c) {
		return whole.Of(1)
	}
	return c
}

// reduce takes pivots in the first cols columns, as many as there are, and clears their columns in the rows below them; with all, in those above them too.
func (g *grid) reduce(cols int, all bool) {
	for col := range cols {
		i := g.choose(col)
		if i < 0 {
			continue
		}
		g.raise(i)
		g.clear(col, all)
	}
}

// choose answers the row, of those without a pivot, that has the next one in this column; -1, if there is none. As others are multiplied by it, the row with the fewest limbs comes first.
func (g *grid) choose(col int) int {
	best, fewest := -1, 0
	for i := g.rank; i < len(g.rows); i++ {
		if isZero(g.rows[i][col]) {
			continue
		}
		n := limbs(g.rows[i])
		if best < 0 || n < fewest {
			best, fewest = i, n
		}
	}
	return best
}

// raise takes row i to the top of those without a pivot.
func (g *grid) raise(i int) {
	if i != g.rank {
		g.rows[i], g.rows[g.rank] = g.rows[g.rank], g.rows[i]
		g.scale[i], g.scale[g.rank] = g.scale[g.rank], g.scale[i]
		g.odd = !g.odd
	}
}

// clear takes the pivot of the row at the top of those without one.
func (g *grid) clear(col int, all bool) {
	for i := range g.rows {
		if (i > g.rank || all && i < g.rank) && !isZero(g.rows[i][col]) {
			g.clearRow(i, col)
		}
	}
	g.rank++
}

// clearRow multiplies row i, takes off what of the pivot's row makes it 0 in this column, and shortens it: so its numbers stay about as short as those that it stands for.
func (g *grid) clearRow(i, col int) {
	top, row := g.rows[g.rank], g.rows[i]
	d := common(top[col], row[col])
	p, f := over(top[col], d), over(row[col], d)
	out := make([]api.Whole, len(row))
	for k := range row {
		out[k] = minus(times(p, row[k]), times(f, top[k]))
	}
	out, c := shortened(out)
	g.rows[i] = out
	g.scale[i], _ = rat.Mul(g.scale[i], quotient(p, c))
}

// det answers the matrix's determinant, if it is square and each row has its pivot.
func (g *grid) det() api.Rat {
	d := rat.Of(1)
	if g.odd {
		d = rat.Of(-1)
	}
	for i, row := range g.rows {
		pivot := quotient(row[i], whole.Of(1))
		d, _ = rat.Mul(d, pivot)
		d, _ = rat.Quo(d, g.scale[i])
	}
	return d
}

// restIsZero asks whether the rows without a pivot have noughts in this column.
func (g *grid) restIsZero(col int) bool {
	for _, row := range g.rows[g.rank:] {
		if !isZero(row[col]) {
			return false
		}
	}
	return true
}

// number answers what stands in row i over its pivot, if the first columns up to that one all have pivots.
func (g *grid) number(i, col int) api.Rat {
	return quotient(g.rows[i][col], g.rows[i][i])
}
