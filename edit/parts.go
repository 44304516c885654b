package edit

import (
	"cmp"
	"slices"

	"tableau/api"
	"tableau/ext"
	"tableau/rat"
	"tableau/vec"
)

// dropCol works on m's own lists.
func dropCol(m *api.Model, col int) {
	m.Cols = slices.Delete(m.Cols, col, col+1)
	for i := range m.Rows {
		r := &m.Rows[i]
		r.Terms = slices.DeleteFunc(r.Terms, func(t api.Term) bool { return t.Col == col })
		for k := range r.Terms {
			if r.Terms[k].Col > col {
				r.Terms[k].Col--
			}
		}
	}
}

// withTerm answers the list with t for what it has of that column, with nothing if t is a nought. It works on the list itself.
func withTerm(v []api.Term, t api.Term) []api.Term {
	place, found := slices.BinarySearchFunc(v, t.Col, func(s api.Term, col int) int { return cmp.Compare(s.Col, col) })
	if found {
		v = slices.Delete(v, place, place+1)
	}
	if isZero(t.A) {
		return v
	}
	return slices.Insert(v, place, t)
}

func scaleRow(row *api.Row, r api.Rat) {
	row.Terms, _ = vec.Scale(r, row.Terms)
	row.Lo, _ = ext.Scale(row.Lo, r)
	row.Hi, _ = ext.Scale(row.Hi, r)
	if r.Neg {
		row.Lo, row.Hi = row.Hi, row.Lo
	}
}

func mirrorCol(c *api.Col) {
	c.Cost, _ = rat.Neg(c.Cost)
	lo, _ := ext.Neg(c.Hi)
	hi, _ := ext.Neg(c.Lo)
	c.Lo, c.Hi = lo, hi
}

// mirrorTerm works on the list itself.
func mirrorTerm(v []api.Term, col int) {
	for k := range v {
		if v[k].Col == col {
			v[k].A, _ = rat.Neg(v[k].A)
		}
	}
}

// settleRow takes what the column adds to the row's activity, its variable being v, over to the row's bounds. The term itself stays.
func settleRow(row *api.Row, col int, v api.Rat) {
	for _, t := range row.Terms {
		if t.Col == col {
			shift, _ := rat.Neg(times(t.A, v))
			row.Lo, _ = ext.Shift(row.Lo, shift)
			row.Hi, _ = ext.Shift(row.Hi, shift)
		}
	}
}

// lessTimes takes so many times the equation off the row.
func lessTimes(row *api.Row, r api.Rat, equation api.Row) {
	by, _ := rat.Neg(r)
	shift := times(by, equation.Lo.V)
	row.Terms, _ = vec.Plus(row.Terms, by, equation.Terms)
	row.Lo, _ = ext.Shift(row.Lo, shift)
	row.Hi, _ = ext.Shift(row.Hi, shift)
}

// isZero wants r in form.
func isZero(r api.Rat) bool { return len(r.Num) == 0 }

// plus wants both in form.
func plus(a, b api.Rat) api.Rat {
	sum, _ := rat.Add(a, b)
	return sum
}

// minus wants both in form.
func minus(a, b api.Rat) api.Rat {
	difference, _ := rat.Sub(a, b)
	return difference
}

// over wants both in form, and b not 0.
func over(a, b api.Rat) api.Rat {
	quotient, _ := rat.Quo(a, b)
	return quotient
}

// times wants both in form.
func times(a, b api.Rat) api.Rat {
	product, _ := rat.Mul(a, b)
	return product
}
