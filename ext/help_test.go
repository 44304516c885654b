package ext_test

import (
	"math/big"
	"slices"

	"tableau/api"
)

const top = 1<<64 - 1

// zero: the number 0 in form, made by hand.
func zero() api.Rat { return api.Rat{Den: []uint64{1}} }

func low() api.Ext { return api.Ext{Inf: -1, V: zero()} }

func high() api.Ext { return api.Ext{Inf: 1, V: zero()} }

// frac: the number n over d in form; d is above 0.
func frac(n, d int64) api.Rat {
	q := big.NewRat(n, d)
	r := api.Rat{Neg: n < 0, Den: []uint64{q.Denom().Uint64()}}
	if n != 0 {
		r.Num = []uint64{new(big.Int).Abs(q.Num()).Uint64()}
	}
	return r
}

func bound(n, d int64) api.Ext { return api.Ext{V: frac(n, d)} }

// rising: bounds of which each is above the one before it.
func rising() []api.Ext {
	long := []uint64{1, 0, 1}
	return []api.Ext{
		low(),
		{V: api.Rat{Neg: true, Num: long, Den: []uint64{1}}},
		{V: api.Rat{Neg: true, Num: []uint64{top}, Den: []uint64{2}}},
		bound(-5, 1), bound(-1, 1), bound(-1, 2), bound(-1, 3),
		{V: api.Rat{Neg: true, Num: []uint64{1}, Den: long}},
		bound(0, 1),
		{V: api.Rat{Num: []uint64{1}, Den: long}},
		bound(1, 3), bound(1, 2), bound(1, 1), bound(3, 1),
		{V: api.Rat{Num: []uint64{0, 1}, Den: []uint64{3}}},
		{V: api.Rat{Num: long, Den: []uint64{1}}},
		high(),
	}
}

// badRats: numbers that are not in form.
func badRats() []api.Rat {
	return []api.Rat{{}, {Neg: true}, {Num: []uint64{1}}, {Num: []uint64{1}, Den: []uint64{0}}, {Num: []uint64{2}, Den: []uint64{4}}, {Num: []uint64{0}, Den: []uint64{1}}, {Neg: true, Den: []uint64{1}}, {Den: []uint64{2}}, {Num: []uint64{5, 0}, Den: []uint64{1}}}
}

// badBounds: infinities and numbers with a V that is not in form, infinities beside a number other than 0, and an Inf of no kind.
func badBounds() []api.Ext {
	var out []api.Ext
	for _, r := range badRats() {
		out = append(out, api.Ext{V: r}, api.Ext{Inf: 1, V: r}, api.Ext{Inf: -1, V: r})
	}
	for _, r := range []api.Rat{frac(3, 1), frac(1, 1), frac(-1, 2)} {
		out = append(out, api.Ext{Inf: 1, V: r}, api.Ext{Inf: -1, V: r})
	}
	for _, inf := range []int{2, -2, 1 << 40, -1 << 63, 1<<63 - 1} {
		out = append(out, api.Ext{Inf: inf}, api.Ext{Inf: inf, V: zero()}, api.Ext{Inf: inf, V: frac(3, 1)})
	}
	return out
}

func sameRat(a, b api.Rat) bool {
	return a.Neg == b.Neg && slices.Equal(a.Num, b.Num) && slices.Equal(a.Den, b.Den)
}

func equal(a, b api.Ext) bool { return a.Inf == b.Inf && sameRat(a.V, b.V) }

// same: is it this bound, limb by limb, without an error?
func same(x api.Ext, e api.Errno, want api.Ext) bool { return e == api.OK && equal(x, want) }

// none: is it the zero value?
func none(x api.Ext) bool {
	return x.Inf == 0 && !x.V.Neg && x.V.Num == nil && x.V.Den == nil
}
