package point_test

import (
	"encoding/binary"
	"math/big"
	"slices"

	"tableau/api"
	"tableau/sample"
)

// toInt: the number of these limbs, by the library's own reckoning.
func toInt(a []uint64) *big.Int {
	var bytes []byte
	for _, w := range slices.Backward(a) {
		bytes = binary.BigEndian.AppendUint64(bytes, w)
	}
	return new(big.Int).SetBytes(bytes)
}

// limbs: the magnitude's limbs in form.
func limbs(n *big.Int) []uint64 {
	var a []uint64
	n = new(big.Int).Abs(n)
	for n.Sign() != 0 {
		a = append(a, new(big.Int).And(n, new(big.Int).SetUint64(1<<64-1)).Uint64())
		n.Rsh(n, 64)
	}
	return a
}

// toBig: the number by the library, against which point is held.
func toBig(r api.Rat) *big.Rat {
	num := toInt(r.Num)
	if r.Neg {
		num.Neg(num)
	}
	return new(big.Rat).SetFrac(num, toInt(r.Den))
}

// fromBig: the library's number in form; it keeps its own in lowest terms.
func fromBig(n *big.Rat) api.Rat {
	return api.Rat{Neg: n.Sign() < 0, Num: limbs(n.Num()), Den: limbs(n.Denom())}
}

func sameRat(a, b api.Rat) bool {
	return a.Neg == b.Neg && slices.Equal(a.Num, b.Num) && slices.Equal(a.Den, b.Den)
}

func isNone(r api.Rat) bool { return !r.Neg && r.Num == nil && r.Den == nil }

// nums: whole numbers.
func nums(l ...int) []api.Rat {
	var x []api.Rat
	for _, n := range l {
		x = append(x, sample.Frac(n, 1))
	}
	return x
}

// filled: so many times one number.
func filled(n int, r api.Rat) []api.Rat {
	x := make([]api.Rat, n)
	for i := range x {
		x[i] = r
	}
	return x
}

// sumOf: the sum over the columns of a number of each times x.
func sumOf(x []api.Rat, a func(col int) api.Rat) *big.Rat {
	sum := new(big.Rat)
	for col, r := range x {
		sum.Add(sum, new(big.Rat).Mul(toBig(a(col)), toBig(r)))
	}
	return sum
}

// coefficient: of the column in the row, 0 where it has none.
func coefficient(r api.Row, col int) api.Rat {
	for _, t := range r.Terms {
		if t.Col == col {
			return t.A
		}
	}
	return sample.Frac(0, 1)
}

// activitiesOf: by the definition, with the library's numbers.
func activitiesOf(m api.Model, x []api.Rat) []api.Rat {
	var out []api.Rat
	for _, r := range m.Rows {
		out = append(out, fromBig(sumOf(x, func(col int) api.Rat { return coefficient(r, col) })))
	}
	return out
}

func valueOf(m api.Model, x []api.Rat) api.Rat {
	sum := sumOf(x, func(col int) api.Rat { return m.Cols[col].Cost })
	return fromBig(sum.Add(sum, toBig(m.Offset)))
}

func keeps(v api.Rat, lo, hi api.Ext) bool {
	aboveLo := lo.Inf != 0 || toBig(lo.V).Cmp(toBig(v)) <= 0
	belowHi := hi.Inf != 0 || toBig(hi.V).Cmp(toBig(v)) >= 0
	return aboveLo && belowHi
}

func brokenOf(m api.Model, x []api.Rat) (cols, rows []int) {
	for i, c := range m.Cols {
		if !keeps(x[i], c.Lo, c.Hi) {
			cols = append(cols, i)
		}
	}
	for i, v := range activitiesOf(m, x) {
		if !keeps(v, m.Rows[i].Lo, m.Rows[i].Hi) {
			rows = append(rows, i)
		}
	}
	return cols, rows
}

// tiny: a number above 0, of more limbs than one.
func tiny() api.Rat { return api.Rat{Num: []uint64{1}, Den: []uint64{0, 1}} }

// near: the numbers of a bound, just below and just above it; 0 of an infinite one.
func near(b api.Ext) []api.Rat {
	if b.Inf != 0 {
		return nums(0)
	}
	v, step := toBig(b.V), toBig(tiny())
	return []api.Rat{b.V, fromBig(new(big.Rat).Sub(v, step)), fromBig(new(big.Rat).Add(v, step))}
}

// lists: numbers for the columns: noughts, ones, those at and near their bounds, and of all kinds.
func lists(m api.Model) [][]api.Rat {
	n := len(m.Cols)
	out := [][]api.Rat{filled(n, sample.Frac(0, 1)), filled(n, sample.Frac(1, 1)), filled(n, sample.Frac(-2, 3))}
	for step := range 3 {
		lows, highs := []api.Rat{}, []api.Rat{}
		for _, c := range m.Cols {
			lows = append(lows, near(c.Lo)[step%len(near(c.Lo))])
			highs = append(highs, near(c.Hi)[step%len(near(c.Hi))])
		}
		out = append(out, lows, highs)
	}
	all := sample.Rats()
	for first := range all {
		var x []api.Rat
		for i := range n {
			x = append(x, all[(first+3*i)%len(all)])
		}
		out = append(out, x)
	}
	return out
}
