package rat_test

import (
	"encoding/binary"
	"math/big"
	"slices"

	"tableau/api"
)

const top = 1<<64 - 1

// toInt: the number of these limbs, by the library's own reckoning.
func toInt(a []uint64) *big.Int {
	var bytes []byte
	for _, w := range slices.Backward(a) {
		bytes = binary.BigEndian.AppendUint64(bytes, w)
	}
	return new(big.Int).SetBytes(bytes)
}

// limbs: the magnitude's limbs in form.
func limbs(n *big.Int) []uint64 {
	var a []uint64
	n = new(big.Int).Abs(n)
	for n.Sign() != 0 {
		low := new(big.Int).And(n, new(big.Int).SetUint64(top))
		a = append(a, low.Uint64())
		n.Rsh(n, 64)
	}
	return a
}

// toBig: the number by the library, against which rat is held.
func toBig(r api.Rat) *big.Rat {
	num := toInt(r.Num)
	if r.Neg {
		num.Neg(num)
	}
	return new(big.Rat).SetFrac(num, toInt(r.Den))
}

// fromBig: the library's number in form; it keeps its own in lowest terms.
func fromBig(n *big.Rat) api.Rat {
	return api.Rat{Neg: n.Sign() < 0, Num: limbs(n.Num()), Den: limbs(n.Denom())}
}

func fromInt(n *big.Int) api.Whole {
	return api.Whole{Neg: n.Sign() < 0, Mag: limbs(n)}
}

// frac: n over d.
func frac(n, d int64) api.Rat { return fromBig(big.NewRat(n, d)) }

func equal(a, b api.Rat) bool {
	return a.Neg == b.Neg && slices.Equal(a.Num, b.Num) && slices.Equal(a.Den, b.Den)
}

// same: is it the number n, limb by limb in lowest terms, without an error?
func same(r api.Rat, e api.Errno, n *big.Rat) bool {
	return e == api.OK && equal(r, fromBig(n))
}

func sameWhole(w api.Whole, e api.Errno, n *big.Int) bool {
	return e == api.OK && w.Neg == (n.Sign() < 0) && slices.Equal(w.Mag, limbs(n))
}

// none: is it the zero value?
func none(r api.Rat) bool { return !r.Neg && r.Num == nil && r.Den == nil }

func noWhole(w api.Whole) bool { return !w.Neg && w.Mag == nil }

// magnitudes: 0, small numbers with divisors in common, and those around the limbs' borders.
func magnitudes() [][]uint64 {
	return [][]uint64{{}, {1}, {2}, {3}, {4}, {6}, {35}, {1 << 63}, {top}, {0, 1}, {1, 1}, {0, 6}, {top, top}, {0, 0, 1}, {1, 0, 1}}
}

// wholes: all magnitudes with both signs.
func wholes() []api.Whole {
	var out []api.Whole
	for _, m := range magnitudes() {
		out = append(out, api.Whole{Mag: m})
		if len(m) > 0 {
			out = append(out, api.Whole{Neg: true, Mag: m})
		}
	}
	return out
}

// badWholes: what is not in form, among it what might be taken for a denominator of 0.
func badWholes() []api.Whole {
	return []api.Whole{{Neg: true}, {Neg: true, Mag: []uint64{}}, {Mag: []uint64{0}}, {Neg: true, Mag: []uint64{0}}, {Mag: []uint64{5, 0}}, {Neg: true, Mag: []uint64{0, 1, 0}}}
}

// numbers: each of some magnitudes over each other, with both signs, and longer ones.
func numbers() []api.Rat {
	out := []api.Rat{{Den: []uint64{1}}, {Num: []uint64{}, Den: []uint64{1}}}
	above := [][]uint64{{1}, {2}, {3}, {10}, {top}, {0, 1}, {top, top}}
	below := [][]uint64{{1}, {2}, {6}, {15}, {top}, {0, 3}, {1, 0, 1}}
	for _, n := range above {
		for _, d := range below {
			r := new(big.Rat).SetFrac(toInt(n), toInt(d))
			out = append(out, fromBig(r), fromBig(r.Neg(r)))
		}
	}
	seed := uint64(1)
	for range 30 {
		r := new(big.Rat).SetFrac(toInt(someLimbs(&seed)), toInt(someLimbs(&seed)))
		out = append(out, fromBig(r), fromBig(r.Neg(r)))
	}
	return out
}

// someLimbs: up to 6 limbs, not 0, the same in each run; all are multiples of 12, so that there is something to shorten.
func someLimbs(seed *uint64) []uint64 {
	next := func() uint64 {
		*seed ^= *seed << 13
		*seed ^= *seed >> 7
		*seed ^= *seed << 17
		return *seed
	}
	a := make([]uint64, 1+next()%6)
	for i := range a {
		a[i] = next() | 1
	}
	return limbs(new(big.Int).Mul(toInt(a), big.NewInt(12)))
}

// badNumbers: what is not in form, each for a reason of its own.
func badNumbers() []api.Rat {
	return []api.Rat{
		{},
		{Neg: true},
		{Num: []uint64{}, Den: []uint64{}},
		{Num: []uint64{1}},
		{Neg: true, Num: []uint64{1}, Den: []uint64{}},
		{Num: []uint64{1}, Den: []uint64{0}},
		{Num: []uint64{1}, Den: []uint64{1, 0}},
		{Num: []uint64{1}, Den: []uint64{2, 0}},
		{Num: []uint64{1, 0}, Den: []uint64{1}},
		{Num: []uint64{5, 0}, Den: []uint64{3}},
		{Num: []uint64{0}, Den: []uint64{1}},
		{Num: []uint64{0}, Den: []uint64{2}},
		{Neg: true, Den: []uint64{1}},
		{Neg: true, Num: []uint64{0}, Den: []uint64{1}},
		{Den: []uint64{2}},
		{Den: []uint64{0, 1}},
		{Num: []uint64{2}, Den: []uint64{4}},
		{Neg: true, Num: []uint64{2}, Den: []uint64{4}},
		{Num: []uint64{3}, Den: []uint64{3}},
		{Num: []uint64{9}, Den: []uint64{3}},
		{Num: []uint64{0, 1}, Den: []uint64{0, 0, 1}},
		{Num: []uint64{top, top}, Den: []uint64{1, 1}},
		{Num: []uint64{top}, Den: []uint64{top, top}},
	}
}
