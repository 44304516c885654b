package farkas_test

import (
	"math/big"
	"slices"
	"testing"

	"tableau/api"
	"tableau/farkas"
	"tableau/sample"
)

// checkError: Combine answers this error, and nothing beside it.
func checkError(t *testing.T, name string, m api.Model, c api.Cert, want api.Errno) {
	t.Helper()
	left, right, e := farkas.Combine(m, c)
	if left != nil || right.Neg || right.Num != nil || right.Den != nil || e != want {
		t.Errorf("P12.2: Combine, %s: %v, %v, %d, want %d", name, left, right, e, want)
	}
}

// checkNone: these are no certificate of a well-formed model, and Combine answers this error.
func checkNone(t *testing.T, name string, m api.Model, c api.Cert, want api.Errno) {
	t.Helper()
	checkValid(t, name, m, c, false)
	checkError(t, name, m, c, want)
}

// TestLengths: each list too short, too long or nil, of certificates and of others.
func TestLengths(t *testing.T) {
	for _, k := range sample.Certs() {
		for i := range 4 {
			change := func(turn func(list []api.Rat) []api.Rat) api.Cert {
				c := cloned(k.C)
				*lists(&c)[i] = turn(*lists(&c)[i])
				return c
			}
			for _, w := range nums(0, 1, -1) {
				checkNone(t, "one too many", k.M, change(func(list []api.Rat) []api.Rat { return append(list, w) }), api.ErrUnlike)
				checkNone(t, "one too many, ahead of the others", k.M, change(func(list []api.Rat) []api.Rat { return slices.Insert(list, 0, w) }), api.ErrUnlike)
			}
			if len(*lists(&k.C)[i]) > 0 {
				checkNone(t, "one too few", k.M, change(func(list []api.Rat) []api.Rat { return list[:len(list)-1] }), api.ErrUnlike)
				checkNone(t, "nil", k.M, change(func([]api.Rat) []api.Rat { return nil }), api.ErrUnlike)
				checkNone(t, "empty", k.M, change(func([]api.Rat) []api.Rat { return []api.Rat{} }), api.ErrUnlike)
			}
		}
		checkNone(t, "nothing", k.M, api.Cert{}, api.ErrUnlike)
		long := filled(70, sample.Frac(1, 1))
		checkNone(t, "all too long", k.M, api.Cert{RowLo: long, RowHi: long, ColLo: long, ColHi: long}, api.ErrUnlike)
		if len(k.M.Rows) != len(k.M.Cols) {
			checkNone(t, "rows for columns", k.M, api.Cert{RowLo: k.C.ColLo, RowHi: k.C.ColHi, ColLo: k.C.RowLo, ColHi: k.C.RowHi}, api.ErrUnlike)
		}
	}
	nothing := api.Model{Offset: sample.Frac(3, 1)}
	checkValid(t, "nothing of nothing", nothing, api.Cert{}, false)
	checkCombine(t, nothing, api.Cert{})
	checkCombine(t, nothing, api.Cert{RowLo: []api.Rat{}, ColHi: []api.Rat{}})
}

// TestForms: a number that is not in form, in each list, some of which stand for the very number that is asked for; with lists of other lengths, and with infinite bounds, beside it.
func TestForms(t *testing.T) {
	for _, k := range sample.Certs() {
		for i, list := range lists(&k.C) {
			for place := range *list {
				if place > 1 && place < len(*list)-1 {
					continue
				}
				for _, bad := range append(sample.BadRats(), unform((*list)[place])...) {
					c := cloned(k.C)
					(*lists(&c)[i])[place] = bad
					checkNone(t, "not in form", k.M, c, api.ErrForm)
					*lists(&c)[3-i] = append(*lists(&c)[3-i], bad)
					checkNone(t, "not in form and too long", k.M, c, api.ErrForm)
					checkNone(t, "too short and not in form", k.M, only(i, bad), api.ErrForm)
				}
			}
		}
	}
	m := one(sample.Low(), sample.High(), sample.Low(), sample.High())
	for i := range 4 {
		c := four(1, 1, 1, 1)
		(*lists(&c)[i])[0] = api.Rat{}
		checkNone(t, "not in form, beside infinite bounds", m, c, api.ErrForm)
		checkNone(t, "too long, beside infinite bounds", m, api.Cert{RowLo: nums(1), RowHi: nums(1), ColLo: nums(1, 1), ColHi: nums(1)}, api.ErrUnlike)
	}
}

// only: this one number in the one list, and nothing else.
func only(i int, r api.Rat) api.Cert {
	var c api.Cert
	*lists(&c)[i] = []api.Rat{r}
	return c
}

// unform: the same number, in ways that are not in form.
func unform(r api.Rat) []api.Rat {
	three := func(a []uint64) []uint64 { return limbs(new(big.Int).Mul(toInt(a), big.NewInt(3))) }
	return []api.Rat{
		{Neg: r.Neg, Num: append(slices.Clone(r.Num), 0), Den: r.Den},
		{Neg: r.Neg, Num: r.Num, Den: append(slices.Clone(r.Den), 0)},
		{Neg: r.Neg, Num: three(r.Num), Den: three(r.Den)},
	}
}

// TestInfinite: a multiplier other than 0 of each kind of infinite bound, above and below 0, alone and among others.
func TestInfinite(t *testing.T) {
	at, low, high := sample.At, sample.Low, sample.High
	for _, w := range []int{1, -1} {
		checkNone(t, "Lo of a row", one(at(0), at(1), low(), at(5)), four(w, 0, 0, 0), api.ErrPoint)
		checkNone(t, "Hi of a row", one(at(0), at(1), at(5), high()), four(0, w, 0, 0), api.ErrPoint)
		checkNone(t, "Lo of a column", one(low(), at(1), at(5), at(6)), four(0, 0, w, 0), api.ErrPoint)
		checkNone(t, "Hi of a column", one(at(0), high(), at(5), at(6)), four(0, 0, 0, w), api.ErrPoint)
		checkNone(t, "both sides of a row", one(at(1), at(0), low(), high()), four(w, w, 1, 1), api.ErrPoint)
		checkNone(t, "both sides of a column", one(low(), high(), at(1), at(0)), four(1, 1, w, w), api.ErrPoint)
	}
	still, out := 0, 0
	for _, m := range sample.Models() {
		for _, c := range multipliers(m) {
			if leansOut(m, c) {
				checkNone(t, "an infinite bound", m, c, api.ErrPoint)
				out++
			} else {
				checkCombine(t, m, c)
				still++
			}
		}
	}
	if still < 50 || out < 50 {
		t.Errorf("%d combinations keep off infinite bounds and %d don't: too few are tried", still, out)
	}
}

// TestLastInfinite: the last row and the last column of the largest certificate.
func TestLastInfinite(t *testing.T) {
	for _, k := range sample.Certs() {
		n := len(k.M.Cols) - 1
		if n != api.MaxCols-1 {
			continue
		}
		for _, w := range nums(1, -1) {
			m, c := k.M, cloned(k.C)
			m.Cols = slices.Clone(m.Cols)
			m.Cols[n].Hi, c.ColHi[n] = sample.High(), w
			checkNone(t, "the last column", m, c, api.ErrPoint)
			m, c = k.M, cloned(k.C)
			m.Rows = slices.Clone(m.Rows)
			m.Rows[n].Lo, c.RowLo[n] = sample.Low(), w
			checkNone(t, "the last row", m, c, api.ErrPoint)
		}
	}
}

// TestBroken: of the model's error and of the multipliers' the least; Valid and Crossing answer the model's.
func TestBroken(t *testing.T) {
	one := sample.Frac(1, 1)
	for _, b := range sample.Brokens() {
		longer, other := even(b.M, one), even(b.M, sample.BadRats()[4])
		longer.ColHi = append(longer.ColHi, one)
		checkError(t, b.Name+" and noughts", b.M, even(b.M, sample.Frac(0, 1)), b.E)
		checkError(t, b.Name+" and ones, of infinite bounds too", b.M, even(b.M, one), b.E)
		checkError(t, b.Name+" and one too many", b.M, longer, min(b.E, api.ErrUnlike))
		checkError(t, b.Name+" and no multipliers", b.M, api.Cert{}, min(b.E, api.ErrUnlike))
		checkError(t, b.Name+" and a number not in form", b.M, only(2, api.Rat{}), min(b.E, api.ErrForm))
		checkError(t, b.Name+" and numbers not in form", b.M, api.Cert{RowLo: append(other.RowLo, api.Rat{})}, min(b.E, api.ErrForm))
		for _, c := range []api.Cert{{}, even(b.M, one), even(b.M, sample.Frac(0, 1)), longer, other} {
			if is, e := farkas.Valid(b.M, c); is || e != b.E {
				t.Errorf("P12.1: Valid, %s: %v, %d, want %d", b.Name, is, e, b.E)
			}
		}
		if c, e := farkas.Crossing(b.M); !isNone(c) || e != b.E {
			t.Errorf("P12.3: Crossing, %s: %v, %d, want %d", b.Name, c, e, b.E)
		}
	}
}
