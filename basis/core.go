package basis

import (
	"slices"

	"tableau/api"
	"tableau/linear"
	"tableau/point"
	"tableau/rat"
	"tableau/vec"
)

// A core is what of a basis must be solved: its Basic columns in the rows that are not Basic, as many of the ones as of the others. Each Basic row has, in the matrix that the document speaks of, a column with a -1 in that row and noughts: so that matrix and the core have one determinant, but for its sign.
type core struct {
	cols, rows []int
	a          [][]api.Rat
}

// newCore wants a b that stands.
func newCore(m api.Model, b api.Basis) core {
	c := core{cols: basics(b.Cols), rows: others(b.Rows)}
	for _, i := range c.rows {
		dense, _ := vec.Dense(m.Rows[i].Terms, len(m.Cols))
		var row []api.Rat
		for _, j := range c.cols {
			row = append(row, dense[j])
		}
		c.a = append(c.a, row)
	}
	return c
}

// numbers answers those of the columns; false, if there is not just one way.
func (c core) numbers(m api.Model, b api.Basis) ([]api.Rat, bool) {
	x := make([]api.Rat, len(m.Cols))
	for j, col := range m.Cols {
		x[j] = held(b.Cols[j], col.Lo, col.Hi)
	}
	// The Basic columns are still 0, so these are what the others bring.
	acts, _ := point.Activities(m, x)
	var missing []api.Rat
	for _, i := range c.rows {
		rest, _ := rat.Sub(held(b.Rows[i], m.Rows[i].Lo, m.Rows[i].Hi), acts[i])
		missing = append(missing, rest)
	}
	found, e := linear.Solve(c.a, missing)
	if e != api.OK {
		return nil, false
	}
	for place, j := range c.cols {
		x[j] = found[place]
	}
	return x, true
}

// multipliers answers those of the rows. It wants a core that is to be solved.
func (c core) multipliers(m api.Model) []api.Rat {
	y := make([]api.Rat, len(m.Rows))
	for i := range y {
		y[i] = rat.Of(0)
	}
	var costs []api.Rat
	for _, j := range c.cols {
		costs = append(costs, m.Cols[j].Cost)
	}
	turned, _ := linear.Transpose(c.a)
	found, _ := linear.Solve(turned, costs)
	for place, i := range c.rows {
		y[i] = found[place]
	}
	return y
}

func samePoint(a, b api.Point) bool {
	return slices.EqualFunc(a.X, b.X, sameRat) && slices.EqualFunc(a.Y, b.Y, sameRat) && slices.EqualFunc(a.Z, b.Z, sameRat)
}

// sameRat wants both in form, which a number has but one.
func sameRat(a, b api.Rat) bool {
	return a.Neg == b.Neg && slices.Equal(a.Num, b.Num) && slices.Equal(a.Den, b.Den)
}
