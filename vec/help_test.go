package vec_test

import (
	"encoding/binary"
	"maps"
	"math"
	"math/big"
	"slices"

	"tableau/api"
)

const top = 1<<64 - 1

// toInt: the number of these limbs, by the library's own reckoning.
func toInt(a []uint64) *big.Int {
	var bytes []byte
	for _, w := range slices.Backward(a) {
		bytes = binary.BigEndian.AppendUint64(bytes, w)
	}
	return new(big.Int).SetBytes(bytes)
}

// limbs: the magnitude's limbs in form.
func limbs(n *big.Int) []uint64 {
	var a []uint64
	n = new(big.Int).Abs(n)
	for n.Sign() != 0 {
		a = append(a, new(big.Int).And(n, new(big.Int).SetUint64(top)).Uint64())
		n.Rsh(n, 64)
	}
	return a
}

// toBig: the number by the library, against which vec is held.
func toBig(r api.Rat) *big.Rat {
	num := toInt(r.Num)
	if r.Neg {
		num.Neg(num)
	}
	return new(big.Rat).SetFrac(num, toInt(r.Den))
}

// fromBig: the library's number in form; it keeps its own in lowest terms.
func fromBig(n *big.Rat) api.Rat {
	return api.Rat{Neg: n.Sign() < 0, Num: limbs(n.Num()), Den: limbs(n.Denom())}
}

// frac: n over d.
func frac(n, d int64) api.Rat { return fromBig(big.NewRat(n, d)) }

func zero() api.Rat { return api.Rat{Den: []uint64{1}} }

// term: n over d of a column.
func term(col int, n, d int64) api.Term { return api.Term{Col: col, A: frac(n, d)} }

// nums: whole numbers.
func nums(l ...int64) []api.Rat {
	var x []api.Rat
	for _, n := range l {
		x = append(x, frac(n, 1))
	}
	return x
}

// ones: so many numbers 1.
func ones(n int) []api.Rat {
	var x []api.Rat
	for range n {
		x = append(x, frac(1, 1))
	}
	return x
}

func sameRat(a, b api.Rat) bool {
	return a.Neg == b.Neg && slices.Equal(a.Num, b.Num) && slices.Equal(a.Den, b.Den)
}

func sameRats(x, y []api.Rat) bool { return slices.EqualFunc(x, y, sameRat) }

func sameTerms(v, w []api.Term) bool {
	return slices.EqualFunc(v, w, func(s, t api.Term) bool { return s.Col == t.Col && sameRat(s.A, t.A) })
}

// none: is it the zero value?
func none(r api.Rat) bool { return !r.Neg && r.Num == nil && r.Den == nil }

// toMap: the numbers by their columns, by the library.
func toMap(v []api.Term) map[int]*big.Rat {
	m := map[int]*big.Rat{}
	for _, t := range v {
		m[t.Col] = toBig(t.A)
	}
	return m
}

// fromMap: the list in form; noughts are left out.
func fromMap(m map[int]*big.Rat) []api.Term {
	var v []api.Term
	for _, col := range slices.Sorted(maps.Keys(m)) {
		if m[col].Sign() != 0 {
			v = append(v, api.Term{Col: col, A: fromBig(m[col])})
		}
	}
	return v
}

// factors: numbers that terms are multiplied by.
func factors() []api.Rat {
	return []api.Rat{zero(), frac(1, 1), frac(-1, 1), frac(2, 3), frac(-3, 2), {Neg: true, Num: []uint64{0, 1}, Den: []uint64{3}}, {Num: []uint64{top}, Den: []uint64{0, 0, 1}}}
}

// lists: lists of terms in form: none, columns that begin at 0 or don't, with gaps and without, the highest columns that there are, numbers of more limbs, and more terms than a model may have columns.
func lists() [][]api.Term {
	var long []api.Term
	for col := range 3 * api.MaxCols {
		long = append(long, term(2*col, int64(col-100)|1, 3))
	}
	return [][]api.Term{
		nil, {},
		{term(0, 1, 1)}, {term(0, -1, 1)}, {term(5, 2, 3)}, {term(math.MaxInt, -7, 2)},
		{term(0, 1, 1), term(2, 3, 1)}, {term(0, -1, 3), term(1, 1, 1)}, {term(1, 1, 1), term(2, -3, 1), term(3, 2, 3)},
		{term(63, 3, 2), term(64, 1, 1), term(1<<40, 1, 1), term(math.MaxInt-1, 1, 7), term(math.MaxInt, 7, 2)},
		{{Col: 0, A: api.Rat{Num: []uint64{0, 1}, Den: []uint64{1}}}, {Col: 2, A: api.Rat{Neg: true, Num: []uint64{1, 0, 1}, Den: []uint64{3}}}},
		long,
	}
}

// badNumbers: what is not in form, each for a reason of its own.
func badNumbers() []api.Rat {
	return []api.Rat{{}, {Neg: true}, {Num: []uint64{1}}, {Num: []uint64{1}, Den: []uint64{0}}, {Num: []uint64{2}, Den: []uint64{4}}, {Num: []uint64{0}, Den: []uint64{1}}, {Neg: true, Den: []uint64{1}}, {Den: []uint64{2}}, {Num: []uint64{5, 0}, Den: []uint64{1}}, {Num: []uint64{1}, Den: []uint64{1, 0}}, {Num: []uint64{3}, Den: []uint64{3}}}
}

// badLists: columns that do not rise or are below 0, terms whose number is 0 or not in form, at each place of a list.
func badLists() [][]api.Term {
	out := [][]api.Term{
		{term(1, 1, 1), term(1, 2, 1)}, {term(2, 1, 1), term(1, 1, 1)}, {term(0, 1, 1), term(0, -1, 1)},
		{term(-1, 1, 1)}, {term(math.MinInt, 1, 1)}, {term(-1, 1, 1), term(0, 1, 1)}, {term(0, 1, 1), term(-1, 1, 1)}, {term(-2, 1, 1), term(-1, 1, 1), term(3, 1, 1)},
		{term(0, 1, 1), term(2, 1, 1), term(1, 1, 1)}, {term(0, 1, 1), term(1, 1, 1), term(1, 1, 1)}, {term(4, 1, 1), term(3, 1, 1), term(5, 1, 1)},
		{term(math.MaxInt, 1, 1), term(math.MaxInt, 1, 1)}, {term(math.MaxInt, 1, 1), term(math.MinInt, 1, 1)},
	}
	for _, a := range append(badNumbers(), zero(), api.Rat{Num: []uint64{}, Den: []uint64{1}}) {
		bad := func(col int) api.Term { return api.Term{Col: col, A: a} }
		out = append(out, []api.Term{bad(0)}, []api.Term{bad(1), term(2, 1, 1)}, []api.Term{term(1, 1, 1), bad(2)}, []api.Term{term(1, 1, 1), bad(2), term(3, 1, 1)})
	}
	return out
}
