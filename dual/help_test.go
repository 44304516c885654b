package dual_test

import (
	"encoding/binary"
	"math/big"
	"slices"

	"tableau/api"
	"tableau/sample"
)

// toInt: the number of these limbs, by the library's own reckoning.
func toInt(a []uint64) *big.Int {
	var bytes []byte
	for _, w := range slices.Backward(a) {
		bytes = binary.BigEndian.AppendUint64(bytes, w)
	}
	return new(big.Int).SetBytes(bytes)
}

// limbs: the magnitude's limbs in form.
func limbs(n *big.Int) []uint64 {
	var a []uint64
	n = new(big.Int).Abs(n)
	for n.Sign() != 0 {
		a = append(a, new(big.Int).And(n, new(big.Int).SetUint64(1<<64-1)).Uint64())
		n.Rsh(n, 64)
	}
	return a
}

// toBig: the number by the library, against which dual is held.
func toBig(r api.Rat) *big.Rat {
	num := toInt(r.Num)
	if r.Neg {
		num.Neg(num)
	}
	return new(big.Rat).SetFrac(num, toInt(r.Den))
}

func bigs(x []api.Rat) []*big.Rat {
	var out []*big.Rat
	for _, r := range x {
		out = append(out, toBig(r))
	}
	return out
}

// fromBig: the library's number in form; it keeps its own in lowest terms.
func fromBig(n *big.Rat) api.Rat {
	return api.Rat{Neg: n.Sign() < 0, Num: limbs(n.Num()), Den: limbs(n.Denom())}
}

func sameRat(a, b api.Rat) bool {
	return a.Neg == b.Neg && slices.Equal(a.Num, b.Num) && slices.Equal(a.Den, b.Den)
}

// nums: whole numbers.
func nums(l ...int) []api.Rat {
	var x []api.Rat
	for _, n := range l {
		x = append(x, sample.Frac(n, 1))
	}
	return x
}

// filled: so many times one number.
func filled(n int, r api.Rat) []api.Rat {
	x := make([]api.Rat, n)
	for i := range x {
		x[i] = r
	}
	return x
}

// table: the coefficients, a nought where there is none.
func table(m api.Model) [][]*big.Rat {
	out := make([][]*big.Rat, len(m.Rows))
	for i, r := range m.Rows {
		for range m.Cols {
			out[i] = append(out[i], new(big.Rat))
		}
		for _, t := range r.Terms {
			out[i][t.Col] = toBig(t.A)
		}
	}
	return out
}

// reducedOf: by the definition, with the library's numbers.
func reducedOf(m api.Model, y []api.Rat) []*big.Rat {
	var out []*big.Rat
	a := table(m)
	for j, c := range m.Cols {
		z := toBig(c.Cost)
		for i, w := range bigs(y) {
			z.Sub(z, new(big.Rat).Mul(w, a[i][j]))
		}
		out = append(out, z)
	}
	return out
}

func activitiesOf(m api.Model, x []api.Rat) []*big.Rat {
	var out []*big.Rat
	for _, row := range table(m) {
		sum := new(big.Rat)
		for j, v := range bigs(x) {
			sum.Add(sum, new(big.Rat).Mul(row[j], v))
		}
		out = append(out, sum)
	}
	return out
}

func valueOf(m api.Model, x []api.Rat) *big.Rat {
	sum := toBig(m.Offset)
	for j, v := range bigs(x) {
		sum.Add(sum, new(big.Rat).Mul(toBig(m.Cols[j].Cost), v))
	}
	return sum
}

func isAt(v *big.Rat, b api.Ext) bool { return b.Inf == 0 && toBig(b.V).Cmp(v) == 0 }

// fits: does v keep the bounds, and may the multiplier w stand beside it?
func fits(v, w *big.Rat, lo, hi api.Ext) bool {
	aboveLo := lo.Inf == -1 || toBig(lo.V).Cmp(v) <= 0
	belowHi := hi.Inf == 1 || toBig(hi.V).Cmp(v) >= 0
	return aboveLo && belowHi && (w.Sign() <= 0 || isAt(v, lo)) && (w.Sign() >= 0 || isAt(v, hi))
}

// holdsOf: is p, of numbers in form and as many as must be, a KKT point by the definition?
func holdsOf(m api.Model, p api.Point) bool {
	z, x := bigs(p.Z), bigs(p.X)
	if !slices.EqualFunc(z, reducedOf(m, p.Y), func(a, b *big.Rat) bool { return a.Cmp(b) == 0 }) {
		return false
	}
	for j, c := range m.Cols {
		if !fits(x[j], z[j], c.Lo, c.Hi) {
			return false
		}
	}
	for i, v := range activitiesOf(m, p.X) {
		if !fits(v, toBig(p.Y[i]), m.Rows[i].Lo, m.Rows[i].Hi) {
			return false
		}
	}
	return true
}

// boundOf: by the definition; false stands for minus infinity.
func boundOf(m api.Model, y []api.Rat) (*big.Rat, bool) {
	sum, finite := toBig(m.Offset), true
	add := func(w *big.Rat, lo, hi api.Ext) {
		b := lo
		if w.Sign() < 0 {
			b = hi
		}
		if w.Sign() != 0 && b.Inf != 0 {
			finite = false
		}
		if w.Sign() != 0 && b.Inf == 0 {
			sum.Add(sum, new(big.Rat).Mul(w, toBig(b.V)))
		}
	}
	for i, w := range bigs(y) {
		add(w, m.Rows[i].Lo, m.Rows[i].Hi)
	}
	for j, w := range reducedOf(m, y) {
		add(w, m.Cols[j].Lo, m.Cols[j].Hi)
	}
	return sum, finite
}

// multipliers: lists of n numbers: noughts, one of them other than 0, and of all kinds.
func multipliers(n int) [][]api.Rat {
	out := [][]api.Rat{filled(n, sample.Frac(0, 1)), filled(n, sample.Frac(1, 1)), filled(n, sample.Frac(-1, 2))}
	for place := range min(n, 6) {
		for _, w := range nums(-1, 1) {
			y := filled(n, sample.Frac(0, 1))
			y[place] = w
			out = append(out, y)
		}
	}
	all := sample.Rats()
	for first := range all {
		var y []api.Rat
		for i := range n {
			y = append(y, all[(first+3*i)%len(all)])
		}
		out = append(out, y)
	}
	return out
}
