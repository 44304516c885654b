package linear_test

import (
	"encoding/binary"
	"math/big"
	"slices"

	"tableau/api"
)

const top = 1<<64 - 1

// toInt: the number of these limbs, by the library's own reckoning.
func toInt(a []uint64) *big.Int {
	var bytes []byte
	for _, w := range slices.Backward(a) {
		bytes = binary.BigEndian.AppendUint64(bytes, w)
	}
	return new(big.Int).SetBytes(bytes)
}

// limbs: the magnitude's limbs in form.
func limbs(n *big.Int) []uint64 {
	var a []uint64
	n = new(big.Int).Abs(n)
	for n.Sign() != 0 {
		a = append(a, new(big.Int).And(n, new(big.Int).SetUint64(top)).Uint64())
		n.Rsh(n, 64)
	}
	return a
}

// toBig: the number by the library, against which linear is held.
func toBig(r api.Rat) *big.Rat {
	num := toInt(r.Num)
	if r.Neg {
		num.Neg(num)
	}
	return new(big.Rat).SetFrac(num, toInt(r.Den))
}

// fromBig: the library's number in form; it keeps its own in lowest terms.
func fromBig(n *big.Rat) api.Rat {
	return api.Rat{Neg: n.Sign() < 0, Num: limbs(n.Num()), Den: limbs(n.Denom())}
}

// frac: n over d.
func frac(n, d int64) api.Rat { return fromBig(big.NewRat(n, d)) }

// nums: whole numbers.
func nums(l ...int64) []api.Rat {
	var x []api.Rat
	for _, n := range l {
		x = append(x, frac(n, 1))
	}
	return x
}

// zeros: so many numbers 0.
func zeros(n int) []api.Rat { return nums(make([]int64, n)...) }

// filled: a matrix with one number everywhere.
func filled(rows, cols int, r api.Rat) [][]api.Rat {
	a := make([][]api.Rat, rows)
	for i := range a {
		for range cols {
			a[i] = append(a[i], r)
		}
	}
	return a
}

func identity(n int) [][]api.Rat {
	a := filled(n, n, frac(0, 1))
	for i := range a {
		a[i][i] = frac(1, 1)
	}
	return a
}

func sameRat(a, b api.Rat) bool {
	return a.Neg == b.Neg && slices.Equal(a.Num, b.Num) && slices.Equal(a.Den, b.Den)
}

func sameRats(x, y []api.Rat) bool { return slices.EqualFunc(x, y, sameRat) }

func sameMatrix(a, b [][]api.Rat) bool { return slices.EqualFunc(a, b, sameRats) }

// none: is it the zero value?
func none(r api.Rat) bool { return !r.Neg && r.Num == nil && r.Den == nil }

func width(a [][]api.Rat) int {
	if len(a) == 0 {
		return 0
	}
	return len(a[0])
}

// product: a times b, by the library; b has as many rows as a columns, and cols columns.
func product(a, b [][]api.Rat, cols int) [][]api.Rat {
	out := make([][]api.Rat, len(a))
	for i, row := range a {
		for k := range cols {
			sum := new(big.Rat)
			for j, r := range row {
				sum.Add(sum, new(big.Rat).Mul(toBig(r), toBig(b[j][k])))
			}
			out[i] = append(out[i], fromBig(sum))
		}
	}
	return out
}

// column: the numbers, each as a row.
func column(x []api.Rat) [][]api.Rat {
	var a [][]api.Rat
	for _, r := range x {
		a = append(a, []api.Rat{r})
	}
	return a
}

// times: a times the column x.
func times(a [][]api.Rat, x []api.Rat) []api.Rat {
	var out []api.Rat
	for _, row := range product(a, column(x), 1) {
		out = append(out, row[0])
	}
	return out
}

// beside: a with b behind it.
func beside(a [][]api.Rat, b []api.Rat) [][]api.Rat {
	var out [][]api.Rat
	for i, row := range a {
		out = append(out, append(slices.Clone(row), b[i]))
	}
	return out
}

// expanded: the determinant by its first row's minors; for small matrices.
func expanded(a [][]api.Rat) *big.Rat {
	if len(a) == 0 {
		return big.NewRat(1, 1)
	}
	sum := new(big.Rat)
	for k, r := range a[0] {
		var minor [][]api.Rat
		for _, row := range a[1:] {
			minor = append(minor, append(slices.Clone(row[:k]), row[k+1:]...))
		}
		part := new(big.Rat).Mul(toBig(r), expanded(minor))
		if k%2 == 1 {
			part.Neg(part)
		}
		sum.Add(sum, part)
	}
	return sum
}

// rank: by the greatest square part of a whose determinant isn't 0; for small matrices.
func rank(a [][]api.Rat) int {
	best := 0
	for rows := range 1 << len(a) {
		for cols := range 1 << width(a) {
			part := chosen(a, rows, cols)
			if len(part) == width(part) && len(part) > best && expanded(part).Sign() != 0 {
				best = len(part)
			}
		}
	}
	return best
}

// chosen: the rows and columns whose bits are set.
func chosen(a [][]api.Rat, rows, cols int) [][]api.Rat {
	var out [][]api.Rat
	for i, row := range a {
		if rows>>i&1 == 0 {
			continue
		}
		var part []api.Rat
		for k, r := range row {
			if cols>>k&1 == 1 {
				part = append(part, r)
			}
		}
		out = append(out, part)
	}
	return out
}

// source: numbers that look as if by chance, the same in each run.
type source uint64

func (s *source) below(n int) int {
	*s ^= *s << 13
	*s ^= *s >> 7
	*s ^= *s << 17
	return int(uint64(*s) >> 11 % uint64(n))
}

// number: often 0, often whole, sometimes long.
func (s *source) number() api.Rat {
	switch s.below(8) {
	case 0, 1, 2:
		return frac(0, 1)
	case 3:
		return frac(int64(s.below(19)-9), int64(1+s.below(9)))
	case 4:
		n := new(big.Rat).SetFrac(toInt([]uint64{uint64(s.below(1 << 40)), 1 + uint64(s.below(9))}), big.NewInt(int64(1+s.below(1<<30))))
		return fromBig(n.Neg(n))
	}
	return frac(int64(s.below(9)-4), 1)
}

func (s *source) matrix(rows, cols int) [][]api.Rat {
	a := make([][]api.Rat, rows)
	for i := range a {
		for range cols {
			a[i] = append(a[i], s.number())
		}
	}
	return a
}

// matrices: those of the edges, and for each count of rows and columns up to 4 some by chance, and some of a lower rank.
func matrices() [][][]api.Rat {
	out := [][][]api.Rat{
		nil, {}, {{}}, {nil, {}, nil},
		{nums(1, 2), nums(3, 4)}, {nums(1, 2), nums(2, 4)}, {nums(1, 2)}, {nums(1), nums(2)}, {nums(0)}, {nums(-3)},
		{nums(0, 1), nums(1, 0)}, {nums(0, 0, 1), nums(1, 0, 0), nums(0, 1, 0)}, {nums(0, 0, 1), nums(0, 1, 0), nums(1, 0, 0)},
		{nums(0, 2), nums(0, 3)}, {nums(0, 0), nums(5, 7)},
		{nums(0, 2, 1), nums(0, 3, 1), nums(0, 5, 2)},
		{{frac(1, 2), frac(1, 3)}, {frac(1, 4), frac(-1, 6)}},
		filled(3, 3, frac(0, 1)), filled(3, 3, frac(2, 3)), filled(2, 4, frac(0, 1)), identity(4),
	}
	s := source(3)
	for rows := range 5 {
		for cols := range 5 {
			for range 6 {
				out = append(out, s.matrix(rows, cols))
			}
			for inner := 1; inner < min(rows, cols); inner++ {
				out = append(out, product(s.matrix(rows, inner), s.matrix(inner, cols), cols))
			}
		}
	}
	return out
}

// badNumbers: what is not in form, each for a reason of its own.
func badNumbers() []api.Rat {
	return []api.Rat{{}, {Neg: true}, {Num: []uint64{1}}, {Num: []uint64{1}, Den: []uint64{0}}, {Num: []uint64{2}, Den: []uint64{4}}, {Num: []uint64{0}, Den: []uint64{1}}, {Neg: true, Den: []uint64{1}}, {Den: []uint64{2}}, {Num: []uint64{5, 0}, Den: []uint64{1}}, {Num: []uint64{1}, Den: []uint64{1, 0}}, {Num: []uint64{3}, Den: []uint64{3}}}
}
