package edit_test

import (
	"encoding/binary"
	"math/big"
	"slices"

	"tableau/api"
)

// A plain model is one by the library's own numbers, with a coefficient for each column in each row; an infinite bound is nil.
type plain struct {
	offset *big.Rat
	cols   []plainCol
	rows   []plainRow
}

type plainCol struct {
	name         string
	cost, lo, hi *big.Rat
}

type plainRow struct {
	name   string
	lo, hi *big.Rat
	a      []*big.Rat
}

func toInt(a []uint64) *big.Int {
	var bytes []byte
	for _, w := range slices.Backward(a) {
		bytes = binary.BigEndian.AppendUint64(bytes, w)
	}
	return new(big.Int).SetBytes(bytes)
}

func toBig(r api.Rat) *big.Rat {
	num := toInt(r.Num)
	if r.Neg {
		num.Neg(num)
	}
	return new(big.Rat).SetFrac(num, toInt(r.Den))
}

func toBound(x api.Ext) *big.Rat {
	if x.Inf != 0 {
		return nil
	}
	return toBig(x.V)
}

func limbs(n *big.Int) []uint64 {
	var a []uint64
	for n = new(big.Int).Abs(n); n.Sign() != 0; n.Rsh(n, 64) {
		a = append(a, new(big.Int).And(n, new(big.Int).SetUint64(1<<64-1)).Uint64())
	}
	return a
}

func fromBig(n *big.Rat) api.Rat {
	return api.Rat{Neg: n.Sign() < 0, Num: limbs(n.Num()), Den: limbs(n.Denom())}
}

// fromBound: inf is the infinity that nil stands for.
func fromBound(n *big.Rat, inf int) api.Ext {
	if n == nil {
		return api.Ext{Inf: inf, V: fromBig(new(big.Rat))}
	}
	return api.Ext{V: fromBig(n)}
}

func toPlainCol(c api.Col) plainCol {
	return plainCol{c.Name, toBig(c.Cost), toBound(c.Lo), toBound(c.Hi)}
}

func toPlainRow(r api.Row, n int) plainRow {
	p := plainRow{name: r.Name, lo: toBound(r.Lo), hi: toBound(r.Hi)}
	for range n {
		p.a = append(p.a, new(big.Rat))
	}
	for _, t := range r.Terms {
		p.a[t.Col] = toBig(t.A)
	}
	return p
}

func toPlain(m api.Model) plain {
	p := plain{offset: toBig(m.Offset)}
	for _, c := range m.Cols {
		p.cols = append(p.cols, toPlainCol(c))
	}
	for _, r := range m.Rows {
		p.rows = append(p.rows, toPlainRow(r, len(m.Cols)))
	}
	return p
}

func fromPlain(p plain) api.Model {
	m := api.Model{Offset: fromBig(p.offset)}
	for _, c := range p.cols {
		m.Cols = append(m.Cols, api.Col{Name: c.name, Cost: fromBig(c.cost), Lo: fromBound(c.lo, -1), Hi: fromBound(c.hi, 1)})
	}
	for _, r := range p.rows {
		row := api.Row{Name: r.name, Lo: fromBound(r.lo, -1), Hi: fromBound(r.hi, 1)}
		for col, a := range r.a {
			if a.Sign() != 0 {
				row.Terms = append(row.Terms, api.Term{Col: col, A: fromBig(a)})
			}
		}
		m.Rows = append(m.Rows, row)
	}
	return m
}

func plus(a, b *big.Rat) *big.Rat { return new(big.Rat).Add(a, b) }

func times(a, b *big.Rat) *big.Rat { return new(big.Rat).Mul(a, b) }

func minus(a *big.Rat) *big.Rat { return new(big.Rat).Neg(a) }

// onBound: f of a number; an infinite bound stays one.
func onBound(x *big.Rat, f func(*big.Rat) *big.Rat) *big.Rat {
	if x == nil {
		return nil
	}
	return f(x)
}

func keeps(x, lo, hi *big.Rat) bool {
	return (lo == nil || x.Cmp(lo) >= 0) && (hi == nil || x.Cmp(hi) <= 0)
}

// isPoint: do the numbers keep all bounds of the model?
func isPoint(p plain, x []*big.Rat) bool {
	for col, c := range p.cols {
		if !keeps(x[col], c.lo, c.hi) {
			return false
		}
	}
	for _, r := range p.rows {
		sum := new(big.Rat)
		for col, a := range r.a {
			sum = plus(sum, times(a, x[col]))
		}
		if !keeps(sum, r.lo, r.hi) {
			return false
		}
	}
	return true
}

func value(p plain, x []*big.Rat) *big.Rat {
	sum := p.offset
	for col, c := range p.cols {
		sum = plus(sum, times(c.cost, x[col]))
	}
	return sum
}

func sameRat(a, b api.Rat) bool {
	return a.Neg == b.Neg && slices.Equal(a.Num, b.Num) && slices.Equal(a.Den, b.Den)
}

func sameExt(a, b api.Ext) bool { return a.Inf == b.Inf && sameRat(a.V, b.V) }

func sameCol(c, d api.Col) bool {
	return c.Name == d.Name && sameRat(c.Cost, d.Cost) && sameExt(c.Lo, d.Lo) && sameExt(c.Hi, d.Hi)
}

func sameRow(r, s api.Row) bool {
	sameTerm := func(s, t api.Term) bool { return s.Col == t.Col && sameRat(s.A, t.A) }
	return r.Name == s.Name && sameExt(r.Lo, s.Lo) && sameExt(r.Hi, s.Hi) && slices.EqualFunc(r.Terms, s.Terms, sameTerm)
}

// sameModel: limb by limb.
func sameModel(a, b api.Model) bool {
	return sameRat(a.Offset, b.Offset) && slices.EqualFunc(a.Cols, b.Cols, sameCol) && slices.EqualFunc(a.Rows, b.Rows, sameRow)
}

// none: is it the zero value?
func none(m api.Model) bool {
	return !m.Offset.Neg && m.Offset.Num == nil && m.Offset.Den == nil && len(m.Cols) == 0 && len(m.Rows) == 0
}

// places: the first, a middle and the last of n.
func places(n int) []int {
	if n == 0 {
		return nil
	}
	return slices.Compact([]int{0, n / 2, n - 1})
}
