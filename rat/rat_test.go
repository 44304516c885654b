package rat_test

import (
	"cmp"
	"math"
	"math/big"
	"slices"
	"testing"

	"tableau/api"
	"tableau/rat"
)

func TestForm(t *testing.T) {
	for _, r := range numbers() {
		if !rat.Form(r) {
			t.Errorf("P3.1: Form(%v) is false", r)
		}
	}
	for _, r := range badNumbers() {
		if rat.Form(r) {
			t.Errorf("P3.1: Form(%v) is true", r)
		}
	}
}

func TestMake(t *testing.T) {
	for _, num := range wholes() {
		for _, den := range wholes() {
			r, e := rat.Make(num, den)
			if len(den.Mag) == 0 {
				if !none(r) || e != api.ErrZero {
					t.Errorf("P3.1: Make(%v, 0) = %v, %d", num, r, e)
				}
				continue
			}
			want := toBig(api.Rat{Neg: num.Neg != den.Neg, Num: num.Mag, Den: den.Mag})
			if !same(r, e, want) {
				t.Errorf("P3.1: Make(%v, %v) = %v, %d", num, den, r, e)
			}
		}
	}
}

func TestMakeExamples(t *testing.T) {
	for _, c := range []struct {
		num, den int64
		want     api.Rat
	}{
		{6, -4, api.Rat{Neg: true, Num: []uint64{3}, Den: []uint64{2}}},
		{-6, -4, api.Rat{Num: []uint64{3}, Den: []uint64{2}}},
		{0, 5, api.Rat{Den: []uint64{1}}},
		{0, -5, api.Rat{Den: []uint64{1}}},
		{0, 1, api.Rat{Den: []uint64{1}}},
		{-12, 3, api.Rat{Neg: true, Num: []uint64{4}, Den: []uint64{1}}},
		{7, -1, api.Rat{Neg: true, Num: []uint64{7}, Den: []uint64{1}}},
		{math.MinInt64, math.MinInt64, api.Rat{Num: []uint64{1}, Den: []uint64{1}}},
	} {
		r, e := rat.Make(fromInt(big.NewInt(c.num)), fromInt(big.NewInt(c.den)))
		if !equal(r, c.want) || e != api.OK {
			t.Errorf("P3.1: Make(%d, %d) = %v, %d", c.num, c.den, r, e)
		}
	}
}

// TestMakeBad: ErrForm goes before ErrZero.
func TestMakeBad(t *testing.T) {
	for _, bad := range badWholes() {
		for _, other := range append(wholes(), bad) {
			if r, e := rat.Make(bad, other); !none(r) || e != api.ErrForm {
				t.Errorf("P3.1: Make(%v, %v) = %v, %d", bad, other, r, e)
			}
			if r, e := rat.Make(other, bad); !none(r) || e != api.ErrForm {
				t.Errorf("P3.1: Make(%v, %v) = %v, %d", other, bad, r, e)
			}
		}
	}
}

func TestOf(t *testing.T) {
	for _, n := range []int{0, 1, -1, 2, -12, math.MaxInt, -math.MaxInt, math.MinInt} {
		if r := rat.Of(n); !same(r, api.OK, new(big.Rat).SetInt64(int64(n))) {
			t.Errorf("P3.1: Of(%d) = %v", n, r)
		}
	}
	least := api.Rat{Neg: true, Num: []uint64{1 << 63}, Den: []uint64{1}}
	if r := rat.Of(math.MinInt64); !equal(r, least) {
		t.Errorf("P3.1: Of the least int = %v", r)
	}
}

func TestSums(t *testing.T) {
	for _, a := range numbers() {
		x := toBig(a)
		for _, b := range numbers() {
			y := toBig(b)
			if s, e := rat.Add(a, b); !same(s, e, new(big.Rat).Add(x, y)) {
				t.Errorf("P3.2: Add(%v, %v) = %v, %d", a, b, s, e)
			}
			if d, e := rat.Sub(a, b); !same(d, e, new(big.Rat).Sub(x, y)) {
				t.Errorf("P3.2: Sub(%v, %v) = %v, %d", a, b, d, e)
			}
			if c, e := rat.Cmp(a, b); c != x.Cmp(y) || e != api.OK {
				t.Errorf("P3.2: Cmp(%v, %v) = %d, %d", a, b, c, e)
			}
		}
	}
}

func TestProducts(t *testing.T) {
	for _, a := range numbers() {
		x := toBig(a)
		for _, b := range numbers() {
			y := toBig(b)
			if p, e := rat.Mul(a, b); !same(p, e, new(big.Rat).Mul(x, y)) {
				t.Errorf("P3.2: Mul(%v, %v) = %v, %d", a, b, p, e)
			}
			q, e := rat.Quo(a, b)
			if y.Sign() == 0 {
				if !none(q) || e != api.ErrZero {
					t.Errorf("P3.2: Quo(%v, 0) = %v, %d", a, q, e)
				}
				continue
			}
			if !same(q, e, new(big.Rat).Quo(x, y)) {
				t.Errorf("P3.2: Quo(%v, %v) = %v, %d", a, b, q, e)
			}
		}
	}
}

func TestOfOne(t *testing.T) {
	for _, a := range numbers() {
		x := toBig(a)
		if n, e := rat.Neg(a); !same(n, e, new(big.Rat).Neg(x)) {
			t.Errorf("P3.2: Neg(%v) = %v, %d", a, n, e)
		}
		if s, e := rat.Sign(a); s != x.Sign() || e != api.OK {
			t.Errorf("P3.2: Sign(%v) = %d, %d", a, s, e)
		}
		// The denominator is above 0, where the library's Div rounds down.
		floor := new(big.Int).Div(x.Num(), x.Denom())
		if w, e := rat.Floor(a); !sameWhole(w, e, floor) {
			t.Errorf("P3.2: Floor(%v) = %v, %d", a, w, e)
		}
	}
}

func TestFloorExamples(t *testing.T) {
	for _, c := range []struct{ num, den, floor int64 }{{-1, 2, -1}, {1, 2, 0}, {0, 1, 0}, {7, 2, 3}, {-7, 2, -4}, {4, 1, 4}, {-4, 1, -4}, {-1, 1, -1}, {-1, math.MaxInt64, -1}} {
		if w, e := rat.Floor(frac(c.num, c.den)); !sameWhole(w, e, big.NewInt(c.floor)) {
			t.Errorf("P3.2: Floor(%d/%d) = %v, %d", c.num, c.den, w, e)
		}
	}
}

// TestExamples: numbers that shorten, to whole ones and to 0 too, written out by hand.
func TestExamples(t *testing.T) {
	type call = func(a, b api.Rat) (api.Rat, api.Errno)
	for _, c := range []struct {
		name           string
		do             call
		a, b, c, d     int64
		above, beneath int64
	}{
		{"Add", rat.Add, 1, 6, 1, 3, 1, 2},
		{"Add", rat.Add, 1, 2, 1, 2, 1, 1},
		{"Add", rat.Add, 5, 6, 1, 6, 1, 1},
		{"Add", rat.Add, -2, 3, 2, 3, 0, 1},
		{"Sub", rat.Sub, 1, 6, -1, 3, 1, 2},
		{"Sub", rat.Sub, 3, 7, 3, 7, 0, 1},
		{"Sub", rat.Sub, 0, 1, 3, 7, -3, 7},
		{"Mul", rat.Mul, 1, 6, -1, 3, -1, 18},
		{"Mul", rat.Mul, -2, 3, -3, 2, 1, 1},
		{"Mul", rat.Mul, -2, 3, 0, 1, 0, 1},
		{"Quo", rat.Quo, 1, 6, -1, 3, -1, 2},
		{"Quo", rat.Quo, 0, 1, -1, 3, 0, 1},
		{"Quo", rat.Quo, -1, 3, -1, 3, 1, 1},
	} {
		want := api.Rat{Neg: c.above < 0, Num: limbs(big.NewInt(c.above)), Den: limbs(big.NewInt(c.beneath))}
		if r, e := c.do(frac(c.a, c.b), frac(c.c, c.d)); !equal(r, want) || e != api.OK {
			t.Errorf("P3.2: %s(%d/%d, %d/%d) = %v, %d", c.name, c.a, c.b, c.c, c.d, r, e)
		}
	}
	for _, c := range []struct{ a, b, c, d int64 }{{1, 3, 1, 2}, {-1, 2, -1, 3}, {-1, 2, 0, 1}, {0, 1, 1, 9}, {-5, 1, 1, 9}} {
		below, e := rat.Cmp(frac(c.a, c.b), frac(c.c, c.d))
		above, f := rat.Cmp(frac(c.c, c.d), frac(c.a, c.b))
		if below != -1 || above != 1 || cmp.Or(e, f) != api.OK {
			t.Errorf("P3.2: Cmp(%d/%d, %d/%d) = %d, the other way %d", c.a, c.b, c.c, c.d, below, above)
		}
	}
}

// TestBadForm: each call tells ErrForm, Quo by 0 too, with nothing beside it.
func TestBadForm(t *testing.T) {
	for _, bad := range badNumbers() {
		for _, other := range []api.Rat{frac(0, 1), frac(3, 1), frac(-3, 5), bad} {
			checkBadPair(t, bad, other)
			checkBadPair(t, other, bad)
		}
		n, e1 := rat.Neg(bad)
		s, e2 := rat.Sign(bad)
		w, e3 := rat.Floor(bad)
		x, e4 := rat.Text(bad)
		if !none(n) || s != 0 || !noWhole(w) || x != "" {
			t.Errorf("P1: an answer beside ErrForm of %v: %v %d %v %q", bad, n, s, w, x)
		}
		checkAllForm(t, []api.Errno{e1, e2, e3, e4}, bad, bad)
	}
}

func checkBadPair(t *testing.T, a, b api.Rat) {
	t.Helper()
	s, e1 := rat.Add(a, b)
	d, e2 := rat.Sub(a, b)
	p, e3 := rat.Mul(a, b)
	q, e4 := rat.Quo(a, b)
	c, e5 := rat.Cmp(a, b)
	if !none(s) || !none(d) || !none(p) || !none(q) || c != 0 {
		t.Errorf("P1: an answer beside ErrForm of %v and %v: %v %v %v %v %d", a, b, s, d, p, q, c)
	}
	checkAllForm(t, []api.Errno{e1, e2, e3, e4, e5}, a, b)
}

func checkAllForm(t *testing.T, errors []api.Errno, a, b api.Rat) {
	t.Helper()
	if slices.ContainsFunc(errors, func(e api.Errno) bool { return e != api.ErrForm }) {
		t.Errorf("P3.2: %v and %v: the calls tell %v, not all ErrForm", a, b, errors)
	}
}
