package farkas_test

import (
	"encoding/binary"
	"math/big"
	"slices"

	"tableau/api"
	"tableau/sample"
)

// toInt: the number of these limbs, by the library's own reckoning.
func toInt(a []uint64) *big.Int {
	var bytes []byte
	for _, w := range slices.Backward(a) {
		bytes = binary.BigEndian.AppendUint64(bytes, w)
	}
	return new(big.Int).SetBytes(bytes)
}

// limbs: the magnitude's limbs in form.
func limbs(n *big.Int) []uint64 {
	var a []uint64
	n = new(big.Int).Abs(n)
	for n.Sign() != 0 {
		a = append(a, new(big.Int).And(n, new(big.Int).SetUint64(1<<64-1)).Uint64())
		n.Rsh(n, 64)
	}
	return a
}

// toBig: the number by the library, against which farkas is held.
func toBig(r api.Rat) *big.Rat {
	num := toInt(r.Num)
	if r.Neg {
		num.Neg(num)
	}
	return new(big.Rat).SetFrac(num, toInt(r.Den))
}

// fromBig: the library's number in form; it keeps its own in lowest terms.
func fromBig(n *big.Rat) api.Rat {
	return api.Rat{Neg: n.Sign() < 0, Num: limbs(n.Num()), Den: limbs(n.Denom())}
}

func sameRat(a, b api.Rat) bool {
	return a.Neg == b.Neg && slices.Equal(a.Num, b.Num) && slices.Equal(a.Den, b.Den)
}

func sameRats(a, b []api.Rat) bool { return slices.EqualFunc(a, b, sameRat) }

func sameCert(a, b api.Cert) bool {
	return sameRats(a.RowLo, b.RowLo) && sameRats(a.RowHi, b.RowHi) && sameRats(a.ColLo, b.ColLo) && sameRats(a.ColHi, b.ColHi)
}

// nums: whole numbers.
func nums(l ...int) []api.Rat {
	var x []api.Rat
	for _, n := range l {
		x = append(x, sample.Frac(n, 1))
	}
	return x
}

// filled: so many times one number.
func filled(n int, r api.Rat) []api.Rat {
	x := make([]api.Rat, n)
	for i := range x {
		x[i] = r
	}
	return x
}

// even: all multipliers of m's bounds are this number.
func even(m api.Model, r api.Rat) api.Cert {
	k, n := len(m.Rows), len(m.Cols)
	return api.Cert{RowLo: filled(k, r), RowHi: filled(k, r), ColLo: filled(n, r), ColHi: filled(n, r)}
}

// lists: those of a certificate, to be changed in place.
func lists(c *api.Cert) []*[]api.Rat { return []*[]api.Rat{&c.RowLo, &c.RowHi, &c.ColLo, &c.ColHi} }

// cloned: the same certificate with lists of its own.
func cloned(c api.Cert) api.Cert {
	return api.Cert{RowLo: slices.Clone(c.RowLo), RowHi: slices.Clone(c.RowHi), ColLo: slices.Clone(c.ColLo), ColHi: slices.Clone(c.ColHi)}
}

// coefficient: of the column in the row, 0 where it has none.
func coefficient(r api.Row, col int) *big.Rat {
	for _, t := range r.Terms {
		if t.Col == col {
			return toBig(t.A)
		}
	}
	return new(big.Rat)
}

// part: lo times Lo less hi times Hi, infinite bounds left out.
func part(lo, hi api.Rat, at, to api.Ext) *big.Rat {
	sum := new(big.Rat)
	if at.Inf == 0 {
		sum.Add(sum, new(big.Rat).Mul(toBig(lo), toBig(at.V)))
	}
	if to.Inf == 0 {
		sum.Sub(sum, new(big.Rat).Mul(toBig(hi), toBig(to.V)))
	}
	return sum
}

// combineOf: by the words of the promise, with the library's numbers.
func combineOf(m api.Model, c api.Cert) ([]*big.Rat, *big.Rat) {
	var left []*big.Rat
	right := new(big.Rat)
	for j, col := range m.Cols {
		sum := new(big.Rat).Sub(toBig(c.ColLo[j]), toBig(c.ColHi[j]))
		for i, r := range m.Rows {
			net := new(big.Rat).Sub(toBig(c.RowLo[i]), toBig(c.RowHi[i]))
			sum.Add(sum, net.Mul(net, coefficient(r, j)))
		}
		left = append(left, sum)
		right.Add(right, part(c.ColLo[j], c.ColHi[j], col.Lo, col.Hi))
	}
	for i, r := range m.Rows {
		right.Add(right, part(c.RowLo[i], c.RowHi[i], r.Lo, r.Hi))
	}
	return left, right
}

// leansOut: is a multiplier of an infinite bound not 0?
func leansOut(m api.Model, c api.Cert) bool {
	out := func(b api.Ext, w api.Rat) bool { return b.Inf != 0 && len(w.Num) > 0 }
	for i, r := range m.Rows {
		if out(r.Lo, c.RowLo[i]) || out(r.Hi, c.RowHi[i]) {
			return true
		}
	}
	for j, col := range m.Cols {
		if out(col.Lo, c.ColLo[j]) || out(col.Hi, c.ColHi[j]) {
			return true
		}
	}
	return false
}

// validOf: is c, of numbers in form and as many as must be, a certificate by the definition?
func validOf(m api.Model, c api.Cert) bool {
	for _, list := range lists(&c) {
		for _, w := range *list {
			if toBig(w).Sign() < 0 {
				return false
			}
		}
	}
	left, right := combineOf(m, c)
	for _, a := range left {
		if a.Sign() != 0 {
			return false
		}
	}
	return !leansOut(m, c) && right.Sign() > 0
}

// inward: the same multipliers, with 0 for each infinite bound.
func inward(m api.Model, c api.Cert) api.Cert {
	c = cloned(c)
	drop := func(b api.Ext, w *api.Rat) {
		if b.Inf != 0 {
			*w = sample.Frac(0, 1)
		}
	}
	for i, r := range m.Rows {
		drop(r.Lo, &c.RowLo[i])
		drop(r.Hi, &c.RowHi[i])
	}
	for j, col := range m.Cols {
		drop(col.Lo, &c.ColLo[j])
		drop(col.Hi, &c.ColHi[j])
	}
	return c
}

// multipliers: of all kinds for m's bounds: noughts, ones, one of them alone, and of either sign and more limbs.
func multipliers(m api.Model) []api.Cert {
	out := []api.Cert{even(m, sample.Frac(0, 1)), even(m, sample.Frac(1, 1)), even(m, sample.Frac(-2, 3))}
	for i := range 4 {
		list := *lists(&out[0])[i]
		for place := range list {
			if place > 2 && place < len(list)-1 {
				continue
			}
			for _, w := range nums(-1, 1) {
				c := even(m, sample.Frac(0, 1))
				(*lists(&c)[i])[place] = w
				out = append(out, c)
			}
		}
	}
	all := sample.Rats()
	for first := range all {
		c := even(m, sample.Frac(0, 1))
		for i, list := range lists(&c) {
			for place := range *list {
				(*list)[place] = all[(first+3*place+5*i)%len(all)]
			}
		}
		out = append(out, c)
	}
	return out
}
