package basis_test

import (
	"encoding/binary"
	"math/big"
	"slices"

	"tableau/api"
	"tableau/sample"
)

// toInt: the number of these limbs, by the library's own reckoning.
func toInt(a []uint64) *big.Int {
	var bytes []byte
	for _, w := range slices.Backward(a) {
		bytes = binary.BigEndian.AppendUint64(bytes, w)
	}
	return new(big.Int).SetBytes(bytes)
}

// limbs: the magnitude's limbs in form.
func limbs(n *big.Int) []uint64 {
	var a []uint64
	n = new(big.Int).Abs(n)
	for n.Sign() != 0 {
		a = append(a, new(big.Int).And(n, new(big.Int).SetUint64(1<<64-1)).Uint64())
		n.Rsh(n, 64)
	}
	return a
}

// toBig: the number by the library, against which basis is held.
func toBig(r api.Rat) *big.Rat {
	num := toInt(r.Num)
	if r.Neg {
		num.Neg(num)
	}
	return new(big.Rat).SetFrac(num, toInt(r.Den))
}

// fromBig: the library's number in form; it keeps its own in lowest terms.
func fromBig(n *big.Rat) api.Rat {
	return api.Rat{Neg: n.Sign() < 0, Num: limbs(n.Num()), Den: limbs(n.Denom())}
}

func sameRat(a, b api.Rat) bool {
	return a.Neg == b.Neg && slices.Equal(a.Num, b.Num) && slices.Equal(a.Den, b.Den)
}

func sameRats(a, b []api.Rat) bool { return slices.EqualFunc(a, b, sameRat) }

func samePoint(a, b api.Point) bool {
	return sameRats(a.X, b.X) && sameRats(a.Y, b.Y) && sameRats(a.Z, b.Z)
}

func sameBasis(a, b api.Basis) bool {
	return slices.Equal(a.Cols, b.Cols) && slices.Equal(a.Rows, b.Rows)
}

// nums: whole numbers.
func nums(l ...int) []api.Rat {
	var x []api.Rat
	for _, n := range l {
		x = append(x, sample.Frac(n, 1))
	}
	return x
}

// filled: so many times one number.
func filled(n int, r api.Rat) []api.Rat {
	x := make([]api.Rat, n)
	for i := range x {
		x[i] = r
	}
	return x
}

// statuses: so many times one status.
func statuses(n int, s api.Status) []api.Status {
	out := make([]api.Status, n)
	for i := range out {
		out[i] = s
	}
	return out
}

// of: the basis with these statuses, those of the n columns first.
func of(n int, list ...api.Status) api.Basis { return api.Basis{Cols: list[:n], Rows: list[n:]} }

// cloned: the same basis with lists of its own.
func cloned(b api.Basis) api.Basis {
	return api.Basis{Cols: slices.Clone(b.Cols), Rows: slices.Clone(b.Rows)}
}

// coefficient: of the column in the row, 0 where it has none.
func coefficient(r api.Row, col int) *big.Rat {
	for _, t := range r.Terms {
		if t.Col == col {
			return toBig(t.A)
		}
	}
	return new(big.Rat)
}

// fits: may a column, or a row, with these bounds have this status, by the definition's words?
func fits(s api.Status, lo, hi api.Ext, row bool) bool {
	finite := func(x api.Ext) bool { return x.Inf == 0 }
	switch s {
	case api.Basic:
		return true
	case api.Lower:
		return finite(lo)
	case api.Upper:
		return finite(hi)
	case api.Free:
		return !row && !finite(lo) && !finite(hi)
	}
	return false
}

// count: how many are Basic.
func count(list []api.Status) int {
	n := 0
	for _, s := range list {
		if s == api.Basic {
			n++
		}
	}
	return n
}

// matrixOf: the one of the definition, with as many rows as the model: a column for each Basic column, and one for each Basic row.
func matrixOf(m api.Model, b api.Basis) [][]*big.Rat {
	out := make([][]*big.Rat, len(m.Rows))
	for i, r := range m.Rows {
		for j, s := range b.Cols {
			if s == api.Basic {
				out[i] = append(out[i], coefficient(r, j))
			}
		}
		for k, s := range b.Rows {
			if s == api.Basic && k == i {
				out[i] = append(out[i], big.NewRat(-1, 1))
			} else if s == api.Basic {
				out[i] = append(out[i], new(big.Rat))
			}
		}
	}
	return out
}

// solveOf: the x with a x = right, of a square matrix; false, if the determinant is 0.
func solveOf(a [][]*big.Rat, right []*big.Rat) ([]*big.Rat, bool) {
	n := len(a)
	grid := make([][]*big.Rat, n)
	for i := range a {
		grid[i] = append(slices.Clone(a[i]), right[i])
	}
	for col := range n {
		at := slices.IndexFunc(grid[col:], func(row []*big.Rat) bool { return row[col].Sign() != 0 })
		if at < 0 {
			return nil, false
		}
		grid[col], grid[col+at] = grid[col+at], grid[col]
		for i := range grid {
			if i == col || grid[i][col].Sign() == 0 {
				continue
			}
			f, row := new(big.Rat).Quo(grid[i][col], grid[col][col]), make([]*big.Rat, n+1)
			for k := range row {
				row[k] = new(big.Rat).Sub(grid[i][k], new(big.Rat).Mul(f, grid[col][k]))
			}
			grid[i] = row
		}
	}
	x := make([]*big.Rat, n)
	for i := range x {
		x[i] = new(big.Rat).Quo(grid[i][n], grid[i][i])
	}
	return x, true
}

// standsOf: all of the definition but the determinant.
func standsOf(m api.Model, b api.Basis) bool {
	if len(b.Cols) != len(m.Cols) || len(b.Rows) != len(m.Rows) || count(b.Cols)+count(b.Rows) != len(m.Rows) {
		return false
	}
	for j, c := range m.Cols {
		if !fits(b.Cols[j], c.Lo, c.Hi, false) {
			return false
		}
	}
	for i, r := range m.Rows {
		if !fits(b.Rows[i], r.Lo, r.Hi, true) {
			return false
		}
	}
	return true
}

// at: the number of a status that is not Basic.
func at(s api.Status, lo, hi api.Ext) *big.Rat {
	switch s {
	case api.Lower:
		return toBig(lo.V)
	case api.Upper:
		return toBig(hi.V)
	}
	return new(big.Rat)
}

// pointOf: is b a basis by the definition, and what is its point? Each row says that its terms less its activity are 0; each Basic column that the multipliers make its cost, each Basic row that its multiplier is 0.
func pointOf(m api.Model, b api.Basis) (api.Point, bool) {
	if !standsOf(m, b) {
		return api.Point{}, false
	}
	a, right, costs := matrixOf(m, b), []*big.Rat{}, []*big.Rat{}
	for i, r := range m.Rows {
		rest := at(b.Rows[i], r.Lo, r.Hi)
		for j, c := range m.Cols {
			rest.Sub(rest, new(big.Rat).Mul(coefficient(r, j), at(b.Cols[j], c.Lo, c.Hi)))
		}
		right = append(right, rest)
	}
	turned := make([][]*big.Rat, len(a))
	for j, s := range b.Cols {
		if s == api.Basic {
			costs = append(costs, toBig(m.Cols[j].Cost))
		}
	}
	for col := range a {
		for _, row := range a {
			turned[col] = append(turned[col], row[col])
		}
	}
	for len(costs) < len(a) {
		costs = append(costs, new(big.Rat))
	}
	basics, is := solveOf(a, right)
	y, alike := solveOf(turned, costs)
	if is != alike {
		panic("a matrix and its transpose disagree")
	}
	if !is {
		return api.Point{}, false
	}
	return laidOut(m, b, basics, y), true
}

// laidOut: the point with these numbers of what is Basic, and these multipliers.
func laidOut(m api.Model, b api.Basis, basics, y []*big.Rat) api.Point {
	var p api.Point
	for j, c := range m.Cols {
		x, z := at(b.Cols[j], c.Lo, c.Hi), toBig(c.Cost)
		if b.Cols[j] == api.Basic {
			x = basics[count(b.Cols[:j])]
		}
		for i, r := range m.Rows {
			z.Sub(z, new(big.Rat).Mul(y[i], coefficient(r, j)))
		}
		p.X, p.Z = append(p.X, fromBig(x)), append(p.Z, fromBig(z))
	}
	for _, w := range y {
		p.Y = append(p.Y, fromBig(w))
	}
	return p
}

// rests: does v keep these bounds, and may the multiplier w stand beside it?
func rests(v, w *big.Rat, lo, hi api.Ext) bool {
	aboveLo, belowHi := lo.Inf != 0 || v.Cmp(toBig(lo.V)) >= 0, hi.Inf != 0 || v.Cmp(toBig(hi.V)) <= 0
	isLo, isHi := lo.Inf == 0 && v.Cmp(toBig(lo.V)) == 0, hi.Inf == 0 && v.Cmp(toBig(hi.V)) == 0
	return aboveLo && belowHi && (w.Sign() <= 0 || isLo) && (w.Sign() >= 0 || isHi)
}

// kktOf: is the point of a basis, whose Z are reduced costs, a KKT point by the definition?
func kktOf(m api.Model, p api.Point) bool {
	for j, c := range m.Cols {
		if !rests(toBig(p.X[j]), toBig(p.Z[j]), c.Lo, c.Hi) {
			return false
		}
	}
	for i, r := range m.Rows {
		act := new(big.Rat)
		for _, t := range r.Terms {
			act.Add(act, new(big.Rat).Mul(toBig(t.A), toBig(p.X[t.Col])))
		}
		if !rests(act, toBig(p.Y[i]), r.Lo, r.Hi) {
			return false
		}
	}
	return true
}

// optimalOf: is b a basis, p its point, and a KKT point, by the definitions?
func optimalOf(m api.Model, b api.Basis, p api.Point) bool {
	own, is := pointOf(m, b)
	return is && samePoint(own, p) && kktOf(m, p)
}
