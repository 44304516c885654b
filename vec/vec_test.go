package vec_test

import (
	"math"
	"math/big"
	"testing"

	"tableau/api"
	"tableau/vec"
)

func TestForm(t *testing.T) {
	for _, v := range lists() {
		if !vec.Form(v) {
			t.Errorf("P5.1: Form(%v) is false", v)
		}
	}
	for _, v := range badLists() {
		if vec.Form(v) {
			t.Errorf("P5.1: Form(%v) is true", v)
		}
	}
}

func TestAt(t *testing.T) {
	for _, v := range lists() {
		stand := toMap(v)
		cols := []int{0, 1, 2, 3, 5, 62, 63, 64, 65, 1 << 40, math.MaxInt - 1, math.MaxInt}
		for _, term := range v {
			cols = append(cols, term.Col)
		}
		for _, col := range cols {
			want := zero()
			if a, ok := stand[col]; ok {
				want = fromBig(a)
			}
			if a, e := vec.At(v, col); !sameRat(a, want) || e != api.OK {
				t.Errorf("P5.1: At(%v, %d) = %v, %d", v, col, a, e)
			}
		}
	}
}

// TestPlus: each list with a multiple of each other, and of itself.
func TestPlus(t *testing.T) {
	for _, v := range lists() {
		for _, w := range lists() {
			for _, r := range factors() {
				want := toMap(v)
				for col, a := range toMap(w) {
					if want[col] == nil {
						want[col] = new(big.Rat)
					}
					want[col].Add(want[col], a.Mul(a, toBig(r)))
				}
				if p, e := vec.Plus(v, r, w); !sameTerms(p, fromMap(want)) || e != api.OK {
					t.Errorf("P5.2: Plus(%v, %v, %v) = %v, %d", v, r, w, p, e)
				}
			}
		}
	}
}

// TestPlusCancels: columns that cancel out at the beginning, in the middle, at the end, and all of them.
func TestPlusCancels(t *testing.T) {
	for _, c := range []struct {
		v    []api.Term
		r    api.Rat
		w    []api.Term
		want []api.Term
	}{
		{[]api.Term{term(0, 1, 1), term(2, 3, 1)}, frac(-3, 1), []api.Term{term(0, 1, 3), term(1, 1, 1)}, []api.Term{term(1, -3, 1), term(2, 3, 1)}},
		{[]api.Term{term(0, 1, 2), term(1, 1, 2), term(2, 1, 2)}, frac(-1, 4), []api.Term{term(1, 2, 1)}, []api.Term{term(0, 1, 2), term(2, 1, 2)}},
		{[]api.Term{term(0, 1, 1), term(9, -2, 3)}, frac(2, 3), []api.Term{term(9, 1, 1)}, []api.Term{term(0, 1, 1)}},
		{[]api.Term{term(0, 1, 1), term(9, -2, 3)}, frac(-1, 1), []api.Term{term(0, 1, 1), term(9, -2, 3)}, nil},
		{[]api.Term{term(0, 1, 1)}, zero(), []api.Term{term(0, 5, 1), term(1, 1, 1)}, []api.Term{term(0, 1, 1)}},
		{nil, zero(), []api.Term{term(0, 5, 1)}, nil},
		{nil, frac(2, 1), []api.Term{term(7, 1, 2)}, []api.Term{term(7, 1, 1)}},
	} {
		if p, e := vec.Plus(c.v, c.r, c.w); !sameTerms(p, c.want) || e != api.OK {
			t.Errorf("P5.2: Plus(%v, %v, %v) = %v, %d", c.v, c.r, c.w, p, e)
		}
	}
}

func TestScale(t *testing.T) {
	for _, v := range lists() {
		for _, r := range factors() {
			want := toMap(v)
			for _, a := range want {
				a.Mul(a, toBig(r))
			}
			if s, e := vec.Scale(r, v); !sameTerms(s, fromMap(want)) || e != api.OK {
				t.Errorf("P5.2: Scale(%v, %v) = %v, %d", r, v, s, e)
			}
		}
		if s, e := vec.Scale(zero(), v); len(s) != 0 || e != api.OK {
			t.Errorf("P5.2: Scale(0, %v) = %v, %d", v, s, e)
		}
	}
}

func TestDot(t *testing.T) {
	full, last := ones(api.MaxCols), ones(api.MaxCols)
	last[api.MaxCols-1] = frac(-5, 7)
	for _, c := range []struct {
		v    []api.Term
		x    []api.Rat
		want api.Rat
	}{
		{[]api.Term{term(0, 2, 1), term(2, 1, 1)}, nums(5, 6, 7), frac(17, 1)},
		{nil, nil, zero()},
		{nil, nums(5, 6, 7), zero()},
		{nil, full, zero()},
		{[]api.Term{term(0, 1, 6), term(1, 1, 3)}, []api.Rat{frac(3, 1), frac(-3, 2)}, zero()},
		{[]api.Term{term(0, 1, 6), term(1, 1, 3)}, []api.Rat{frac(-1, 2), frac(1, 2)}, frac(1, 12)},
		{[]api.Term{term(1, 5, 1)}, nums(1, 0), zero()},
		{[]api.Term{term(1, 5, 1)}, []api.Rat{frac(1, 7), frac(2, 3)}, frac(10, 3)},
		{[]api.Term{{Col: 0, A: api.Rat{Num: []uint64{0, 1}, Den: []uint64{1}}}}, []api.Rat{{Num: []uint64{0, 1}, Den: []uint64{3}}}, api.Rat{Num: []uint64{0, 0, 1}, Den: []uint64{3}}},
		{[]api.Term{term(63, 7, 1)}, last, frac(-5, 1)},
		{[]api.Term{term(0, 1, 2), term(62, 1, 2), term(63, 7, 1)}, last, frac(-4, 1)},
	} {
		if d, e := vec.Dot(c.v, c.x); !sameRat(d, c.want) || e != api.OK {
			t.Errorf("P5.3: Dot(%v, %v) = %v, %d", c.v, c.x, d, e)
		}
	}
}

func TestDense(t *testing.T) {
	full := make([]api.Rat, api.MaxCols)
	for col := range full {
		full[col] = zero()
	}
	full[0], full[63] = frac(1, 2), frac(-3, 1)
	for _, c := range []struct {
		v    []api.Term
		n    int
		want []api.Rat
	}{
		{[]api.Term{term(1, 4, 1)}, 3, nums(0, 4, 0)},
		{[]api.Term{term(0, -4, 3), term(2, 1, 1)}, 3, []api.Rat{frac(-4, 3), zero(), frac(1, 1)}},
		{nil, 0, nil},
		{nil, 2, nums(0, 0)},
		{[]api.Term{term(0, 1, 1)}, 1, nums(1)},
		{[]api.Term{term(0, 1, 2), term(63, -3, 1)}, 64, full},
	} {
		if x, e := vec.Dense(c.v, c.n); !sameRats(x, c.want) || e != api.OK {
			t.Errorf("P5.3: Dense(%v, %d) = %v, %d", c.v, c.n, x, e)
		}
		if v, e := vec.Sparse(c.want); !sameTerms(v, c.v) || e != api.OK {
			t.Errorf("P5.3: Sparse(%v) = %v, %d", c.want, v, e)
		}
	}
	if x, e := vec.Dense(nil, api.MaxCols); !sameRats(x, nums(make([]int64, 64)...)) || e != api.OK {
		t.Errorf("P5.3: Dense of none and 64 = %v, %d", x, e)
	}
}

func TestSparse(t *testing.T) {
	for _, c := range []struct {
		x    []api.Rat
		want []api.Term
	}{
		{nil, nil},
		{nums(0), nil},
		{nums(0, 0, 0), nil},
		{nums(make([]int64, 64)...), nil},
		{[]api.Rat{{Num: []uint64{}, Den: []uint64{1}}, frac(-1, 3)}, []api.Term{term(1, -1, 3)}},
		{nums(3, 0, -2), []api.Term{term(0, 3, 1), term(2, -2, 1)}},
	} {
		if v, e := vec.Sparse(c.x); !sameTerms(v, c.want) || e != api.OK {
			t.Errorf("P5.3: Sparse(%v) = %v, %d", c.x, v, e)
		}
	}
	v, e := vec.Sparse(ones(api.MaxCols))
	if len(v) != 64 || v[63].Col != 63 || e != api.OK {
		t.Errorf("P5.3: Sparse of 64 numbers 1 = %v, %d", v, e)
	}
}
