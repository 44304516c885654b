package simplex_test

import (
	"math/big"
	"slices"

	"tableau/api"
)

// The words of the document, with the library's numbers.

// coefficient: of the column in the row, 0 where it has none.
func coefficient(r api.Row, col int) *big.Rat {
	for _, t := range r.Terms {
		if t.Col == col {
			return toBig(t.A)
		}
	}
	return new(big.Rat)
}

// activity: of the row at x.
func activity(r api.Row, x []api.Rat) *big.Rat {
	sum := new(big.Rat)
	for _, t := range r.Terms {
		sum.Add(sum, new(big.Rat).Mul(toBig(t.A), toBig(x[t.Col])))
	}
	return sum
}

// costOf: the sum of costs times x.
func costOf(m api.Model, x []api.Rat) *big.Rat {
	sum := new(big.Rat)
	for j, c := range m.Cols {
		sum.Add(sum, new(big.Rat).Mul(toBig(c.Cost), toBig(x[j])))
	}
	return sum
}

func valueOf(m api.Model, x []api.Rat) *big.Rat {
	return new(big.Rat).Add(toBig(m.Offset), costOf(m, x))
}

// each: is it so of each column's number and of each row's activity at x, with their bounds and their places, columns first?
func each(m api.Model, x []api.Rat, is func(place int, v *big.Rat, lo, hi api.Ext) bool) bool {
	for j, c := range m.Cols {
		if !is(j, toBig(x[j]), c.Lo, c.Hi) {
			return false
		}
	}
	for i, r := range m.Rows {
		if !is(len(m.Cols)+i, activity(r, x), r.Lo, r.Hi) {
			return false
		}
	}
	return true
}

func isAt(v *big.Rat, bound api.Ext) bool { return bound.Inf == 0 && v.Cmp(toBig(bound.V)) == 0 }

func keeps(v *big.Rat, lo, hi api.Ext) bool {
	return (lo.Inf != 0 || v.Cmp(toBig(lo.V)) >= 0) && (hi.Inf != 0 || v.Cmp(toBig(hi.V)) <= 0)
}

func isPoint(m api.Model, x []api.Rat) bool {
	return formed(x, len(m.Cols)) && each(m, x, func(_ int, v *big.Rat, lo, hi api.Ext) bool { return keeps(v, lo, hi) })
}

// isRay: by the definition.
func isRay(m api.Model, r api.Ray) bool {
	recedes := func(_ int, v *big.Rat, lo, hi api.Ext) bool {
		return (lo.Inf != 0 || v.Sign() >= 0) && (hi.Inf != 0 || v.Sign() <= 0)
	}
	return isPoint(m, r.X) && formed(r.D, len(m.Cols)) && each(m, r.D, recedes) && costOf(m, r.D).Sign() < 0
}

// isCert: by the definition.
func isCert(m api.Model, c api.Cert) bool {
	n, k := len(m.Cols), len(m.Rows)
	if !formed(c.RowLo, k) || !formed(c.RowHi, k) || !formed(c.ColLo, n) || !formed(c.ColHi, n) {
		return false
	}
	total, fits := new(big.Rat), true
	lean := func(by api.Rat, bound api.Ext, sign int64) {
		fits = fits && !by.Neg && (bound.Inf == 0 || len(by.Num) == 0)
		total.Add(total, new(big.Rat).Mul(big.NewRat(sign, 1), new(big.Rat).Mul(toBig(by), toBig(bound.V))))
	}
	for i, r := range m.Rows {
		lean(c.RowLo[i], r.Lo, 1)
		lean(c.RowHi[i], r.Hi, -1)
	}
	for j, col := range m.Cols {
		lean(c.ColLo[j], col.Lo, 1)
		lean(c.ColHi[j], col.Hi, -1)
		sum := new(big.Rat).Sub(toBig(c.ColLo[j]), toBig(c.ColHi[j]))
		for i, r := range m.Rows {
			by := new(big.Rat).Sub(toBig(c.RowLo[i]), toBig(c.RowHi[i]))
			sum.Add(sum, by.Mul(by, coefficient(r, j)))
		}
		fits = fits && sum.Sign() == 0
	}
	return fits && total.Sign() > 0
}

// isKkt: by the definition.
func isKkt(m api.Model, p api.Point) bool {
	if !isPoint(m, p.X) || !formed(p.Y, len(m.Rows)) || !formed(p.Z, len(m.Cols)) {
		return false
	}
	for j, c := range m.Cols {
		z := toBig(c.Cost)
		for i, r := range m.Rows {
			z.Sub(z, new(big.Rat).Mul(toBig(p.Y[i]), coefficient(r, j)))
		}
		if z.Cmp(toBig(p.Z[j])) != 0 {
			return false
		}
	}
	by := slices.Concat(p.Z, p.Y)
	return each(m, p.X, func(place int, v *big.Rat, lo, hi api.Ext) bool {
		sign := toBig(by[place]).Sign()
		return sign == 0 || sign > 0 && isAt(v, lo) || sign < 0 && isAt(v, hi)
	})
}

// isBasis: by the definition.
func isBasis(m api.Model, b api.Basis) bool {
	if len(b.Cols) != len(m.Cols) || len(b.Rows) != len(m.Rows) {
		return false
	}
	fits := func(s api.Status, lo, hi api.Ext, row bool) bool {
		return s == api.Basic || s == api.Lower && lo.Inf == 0 || s == api.Upper && hi.Inf == 0 || s == api.Free && !row && lo.Inf != 0 && hi.Inf != 0
	}
	var matrix [][]*big.Rat // its rows are the columns that the definition speaks of
	for j, c := range m.Cols {
		if !fits(b.Cols[j], c.Lo, c.Hi, false) {
			return false
		}
		var list []*big.Rat
		for _, r := range m.Rows {
			list = append(list, coefficient(r, j))
		}
		if b.Cols[j] == api.Basic {
			matrix = append(matrix, list)
		}
	}
	for i, r := range m.Rows {
		if !fits(b.Rows[i], r.Lo, r.Hi, true) {
			return false
		}
		if b.Rows[i] == api.Basic {
			list := filled(len(m.Rows), new(big.Rat))
			list[i] = big.NewRat(-1, 1)
			matrix = append(matrix, list)
		}
	}
	return len(matrix) == len(m.Rows) && regular(matrix)
}

// regular: is the determinant of a square matrix not 0?
func regular(a [][]*big.Rat) bool {
	for col := range a {
		at := slices.IndexFunc(a[col:], func(row []*big.Rat) bool { return row[col].Sign() != 0 })
		if at < 0 {
			return false
		}
		a[col], a[col+at] = a[col+at], a[col]
		for i := col + 1; i < len(a); i++ {
			if a[i][col].Sign() == 0 {
				continue
			}
			f, row := new(big.Rat).Quo(a[i][col], a[col][col]), slices.Clone(a[i])
			for k, v := range a[col] {
				if v.Sign() != 0 {
					row[k] = new(big.Rat).Sub(row[k], new(big.Rat).Mul(f, v))
				}
			}
			a[i] = row
		}
	}
	return true
}

// isOptimal: is b a basis, p its point, and a KKT point? Of a basis there is just one point: so it is enough that p is as the definition says.
func isOptimal(m api.Model, b api.Basis, p api.Point) bool {
	if !isBasis(m, b) || !isKkt(m, p) {
		return false
	}
	list, by := slices.Concat(b.Cols, b.Rows), slices.Concat(p.Z, p.Y)
	return each(m, p.X, func(place int, v *big.Rat, lo, hi api.Ext) bool {
		switch list[place] {
		case api.Lower:
			return isAt(v, lo)
		case api.Upper:
			return isAt(v, hi)
		case api.Free:
			return v.Sign() == 0
		}
		return len(by[place].Num) == 0
	})
}

// isZero: have the fields of a Status that a hasn't got their zero values?
func isZero(a api.Answer) bool {
	if a.Status != api.Optimal && (a.Value.Neg || len(a.Value.Num) > 0 || len(a.Value.Den) > 0) {
		return false
	}
	for i, list := range rats(&a) {
		kind := []int{api.Optimal, api.Optimal, api.Optimal, api.Infeasible, api.Infeasible, api.Infeasible, api.Infeasible, api.Unbounded, api.Unbounded}[i]
		if kind != a.Status && len(*list) > 0 {
			return false
		}
	}
	return a.Status == api.Optimal || len(a.Basis.Cols) == 0 && len(a.Basis.Rows) == 0
}

// isAnswer: by the promise P16.1.
func isAnswer(m api.Model, a api.Answer) bool {
	if !isZero(a) {
		return false
	}
	switch a.Status {
	case api.Optimal:
		return isOptimal(m, a.Basis, a.Point) && sameRat(a.Value, fromBig(valueOf(m, a.Point.X)))
	case api.Infeasible:
		return isCert(m, a.Cert)
	case api.Unbounded:
		return isRay(m, a.Ray)
	}
	return false
}
