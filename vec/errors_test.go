package vec_test

import (
	"math"
	"testing"

	"tableau/api"
	"tableau/vec"
)

// badPlaces: what is below 0.
func badPlaces() []int { return []int{-1, -2, math.MinInt} }

func TestBadAt(t *testing.T) {
	for _, v := range append(lists(), badLists()...) {
		for _, col := range badPlaces() {
			if a, e := vec.At(v, col); !none(a) || e != api.ErrArg {
				t.Errorf("P5.1: At(%v, %d) = %v, %d", v, col, a, e)
			}
		}
	}
	for _, v := range badLists() {
		for _, col := range []int{0, 1, 2, 3, math.MaxInt} {
			if a, e := vec.At(v, col); !none(a) || e != api.ErrForm {
				t.Errorf("P5.1: At(%v, %d) = %v, %d", v, col, a, e)
			}
		}
	}
}

func TestBadPlus(t *testing.T) {
	check := func(v []api.Term, r api.Rat, w []api.Term) {
		t.Helper()
		if p, e := vec.Plus(v, r, w); p != nil || e != api.ErrForm {
			t.Errorf("P5.2: Plus(%v, %v, %v) = %v, %d", v, r, w, p, e)
		}
	}
	for _, bad := range badLists() {
		for _, r := range append(factors(), badNumbers()...) {
			check(bad, r, nil)
			check(nil, r, bad)
			check(bad, r, bad)
			check(lists()[8], r, bad)
			check(bad, r, lists()[8])
		}
	}
	for _, r := range badNumbers() {
		check(nil, r, nil)
		check(lists()[2], r, lists()[6])
		check(lists()[2], r, nil)
	}
}

func TestBadScale(t *testing.T) {
	check := func(r api.Rat, v []api.Term) {
		t.Helper()
		if s, e := vec.Scale(r, v); s != nil || e != api.ErrForm {
			t.Errorf("P5.2: Scale(%v, %v) = %v, %d", r, v, s, e)
		}
	}
	for _, bad := range badLists() {
		for _, r := range append(factors(), badNumbers()...) {
			check(r, bad)
		}
	}
	for _, r := range badNumbers() {
		for _, v := range lists() {
			check(r, v)
		}
	}
}

// TestBadDot: of too long, not in form and unlike the least.
func TestBadDot(t *testing.T) {
	check := func(v []api.Term, x []api.Rat, want api.Errno) {
		t.Helper()
		if d, e := vec.Dot(v, x); !none(d) || e != want {
			t.Errorf("P5.3: Dot(%v, %v) = %v, %d", v, x, d, e)
		}
	}
	for _, x := range [][]api.Rat{ones(65), make([]api.Rat, 65), append(ones(200), api.Rat{})} {
		check(nil, x, api.ErrLong)
		check([]api.Term{term(1, 1, 1)}, x, api.ErrLong)
		check([]api.Term{term(500, 1, 1)}, x, api.ErrLong)
		check([]api.Term{term(-1, 1, 1)}, x, api.ErrLong)
	}
	for _, v := range badLists() {
		check(v, nil, api.ErrForm)
		check(v, nums(5, 6, 7, 8), api.ErrForm)
		check(v, make([]api.Rat, 4), api.ErrForm)
		check(v, ones(64), api.ErrForm)
	}
	for _, r := range badNumbers() {
		check([]api.Term{term(0, 1, 1)}, []api.Rat{r}, api.ErrForm)
		check([]api.Term{term(0, 1, 1)}, []api.Rat{zero(), r}, api.ErrForm)
		check(nil, []api.Rat{zero(), r, zero()}, api.ErrForm)
		check([]api.Term{term(9, 1, 1)}, []api.Rat{zero(), r}, api.ErrForm)
		check(nil, append(ones(63), r), api.ErrForm)
	}
	check([]api.Term{term(3, 1, 1)}, nums(5, 6, 7), api.ErrUnlike)
	check([]api.Term{term(0, 1, 1), term(3, 1, 1)}, nums(5, 6, 7), api.ErrUnlike)
	check([]api.Term{term(0, 1, 1)}, nil, api.ErrUnlike)
	check([]api.Term{term(64, 1, 1)}, ones(64), api.ErrUnlike)
	check([]api.Term{term(math.MaxInt, 1, 1)}, ones(64), api.ErrUnlike)
}

// TestBadDense: of a wrong count, not in form and unlike the least.
func TestBadDense(t *testing.T) {
	check := func(v []api.Term, n int, want api.Errno) {
		t.Helper()
		if x, e := vec.Dense(v, n); x != nil || e != want {
			t.Errorf("P5.3: Dense(%v, %d) = %v, %d", v, n, x, e)
		}
	}
	for _, n := range append(badPlaces(), 65, 66, math.MaxInt) {
		for _, v := range append(lists(), badLists()...) {
			check(v, n, api.ErrArg)
		}
	}
	for _, v := range badLists() {
		for _, n := range []int{0, 1, 2, 3, 64} {
			check(v, n, api.ErrForm)
		}
	}
	check([]api.Term{term(0, 1, 1)}, 0, api.ErrUnlike)
	check([]api.Term{term(3, 1, 1)}, 3, api.ErrUnlike)
	check([]api.Term{term(0, 1, 1), term(4, 1, 1)}, 3, api.ErrUnlike)
	check([]api.Term{term(64, 1, 1)}, 64, api.ErrUnlike)
	check([]api.Term{term(math.MaxInt, 1, 1)}, 64, api.ErrUnlike)
}

func TestBadSparse(t *testing.T) {
	check := func(x []api.Rat, want api.Errno) {
		t.Helper()
		if v, e := vec.Sparse(x); v != nil || e != want {
			t.Errorf("P5.3: Sparse(%v) = %v, %d", x, v, e)
		}
	}
	check(ones(65), api.ErrLong)
	check(nums(make([]int64, 65)...), api.ErrLong)
	check(make([]api.Rat, 65), api.ErrLong)
	for _, r := range badNumbers() {
		check([]api.Rat{r}, api.ErrForm)
		check([]api.Rat{zero(), r}, api.ErrForm)
		check([]api.Rat{r, frac(1, 1)}, api.ErrForm)
		check(append(ones(63), r), api.ErrForm)
	}
}
