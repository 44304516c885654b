package ray_test

import (
	"encoding/binary"
	"math/big"
	"slices"

	"tableau/api"
	"tableau/sample"
)

// toInt: the number of these limbs, by the library's own reckoning.
func toInt(a []uint64) *big.Int {
	var bytes []byte
	for _, w := range slices.Backward(a) {
		bytes = binary.BigEndian.AppendUint64(bytes, w)
	}
	return new(big.Int).SetBytes(bytes)
}

// limbs: the magnitude's limbs in form.
func limbs(n *big.Int) []uint64 {
	var a []uint64
	n = new(big.Int).Abs(n)
	for n.Sign() != 0 {
		a = append(a, new(big.Int).And(n, new(big.Int).SetUint64(1<<64-1)).Uint64())
		n.Rsh(n, 64)
	}
	return a
}

// toBig: the number by the library, against which ray is held.
func toBig(r api.Rat) *big.Rat {
	num := toInt(r.Num)
	if r.Neg {
		num.Neg(num)
	}
	return new(big.Rat).SetFrac(num, toInt(r.Den))
}

// fromBig: the library's number in form; it keeps its own in lowest terms.
func fromBig(n *big.Rat) api.Rat {
	return api.Rat{Neg: n.Sign() < 0, Num: limbs(n.Num()), Den: limbs(n.Denom())}
}

func sameRat(a, b api.Rat) bool {
	return a.Neg == b.Neg && slices.Equal(a.Num, b.Num) && slices.Equal(a.Den, b.Den)
}

func sameRats(a, b []api.Rat) bool { return slices.EqualFunc(a, b, sameRat) }

// nums: whole numbers.
func nums(l ...int) []api.Rat {
	var x []api.Rat
	for _, n := range l {
		x = append(x, sample.Frac(n, 1))
	}
	return x
}

// filled: so many times one number.
func filled(n int, r api.Rat) []api.Rat {
	x := make([]api.Rat, n)
	for i := range x {
		x[i] = r
	}
	return x
}

// dot: the sum of products.
func dot(a, b []*big.Rat) *big.Rat {
	sum := new(big.Rat)
	for i := range a {
		sum.Add(sum, new(big.Rat).Mul(a[i], b[i]))
	}
	return sum
}

func bigs(x []api.Rat) []*big.Rat {
	var out []*big.Rat
	for _, r := range x {
		out = append(out, toBig(r))
	}
	return out
}

// activitiesOf: by the definition, with the library's numbers.
func activitiesOf(m api.Model, x []api.Rat) []*big.Rat {
	var out []*big.Rat
	for _, r := range m.Rows {
		row := bigs(filled(len(m.Cols), sample.Frac(0, 1)))
		for _, t := range r.Terms {
			row[t.Col] = toBig(t.A)
		}
		out = append(out, dot(row, bigs(x)))
	}
	return out
}

// slopeOf: the sum of costs times d.
func slopeOf(m api.Model, d []api.Rat) *big.Rat {
	var costs []api.Rat
	for _, c := range m.Cols {
		costs = append(costs, c.Cost)
	}
	return dot(bigs(costs), bigs(d))
}

// all: is it so of each column's number and of each row's activity, with their bounds?
func all(m api.Model, x []api.Rat, is func(v *big.Rat, lo, hi api.Ext) bool) bool {
	for i, c := range m.Cols {
		if !is(toBig(x[i]), c.Lo, c.Hi) {
			return false
		}
	}
	for i, v := range activitiesOf(m, x) {
		if !is(v, m.Rows[i].Lo, m.Rows[i].Hi) {
			return false
		}
	}
	return true
}

// recedesOf: does d, of numbers in form and as many as must be, recede by the definition?
func recedesOf(m api.Model, d []api.Rat) bool {
	return all(m, d, func(v *big.Rat, lo, hi api.Ext) bool {
		return (lo.Inf != 0 || v.Sign() >= 0) && (hi.Inf != 0 || v.Sign() <= 0)
	})
}

func feasibleOf(m api.Model, x []api.Rat) bool {
	return all(m, x, func(v *big.Rat, lo, hi api.Ext) bool {
		return (lo.Inf != 0 || v.Cmp(toBig(lo.V)) >= 0) && (hi.Inf != 0 || v.Cmp(toBig(hi.V)) <= 0)
	})
}

// validOf: is r a ray by the definition?
func validOf(m api.Model, r api.Ray) bool {
	return feasibleOf(m, r.X) && recedesOf(m, r.D) && slopeOf(m, r.D).Sign() < 0
}

// directions: of all kinds: noughts, one number alone, and of either sign and more limbs.
func directions(n int) [][]api.Rat {
	out := [][]api.Rat{filled(n, sample.Frac(0, 1)), filled(n, sample.Frac(1, 1)), filled(n, sample.Frac(-2, 3))}
	for place := range n {
		if place > 4 && place < n-1 {
			continue
		}
		for _, w := range nums(-1, 1) {
			d := filled(n, sample.Frac(0, 1))
			d[place] = w
			out = append(out, d)
		}
	}
	kinds := sample.Rats()
	for first := range kinds {
		var d []api.Rat
		for i := range n {
			d = append(d, kinds[(first+3*i)%len(kinds)])
		}
		out = append(out, d)
	}
	return out
}
