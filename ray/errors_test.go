package ray_test

import (
	"math/big"
	"slices"
	"testing"

	"tableau/api"
	"tableau/ray"
	"tableau/sample"
)

func checkAlongError(t *testing.T, name string, r api.Ray, by api.Rat, want api.Errno) {
	t.Helper()
	if x, e := ray.Along(r, by); x != nil || e != want {
		t.Errorf("P13.2: Along, %s: %v, %d, want %d", name, x, e, want)
	}
}

// TestAlongErrors: numbers not in form, lists of unlike lengths, and both.
func TestAlongErrors(t *testing.T) {
	for n := range 4 {
		x, d, two := nums(1, 2, 3)[:n], nums(4, 5, 6)[:n], sample.Frac(2, 1)
		checkAlongError(t, "D too long", api.Ray{X: x, D: nums(4, 5, 6, 7)[:n+1]}, two, api.ErrUnlike)
		checkAlongError(t, "X too long", api.Ray{X: nums(4, 5, 6, 7)[:n+1], D: d}, two, api.ErrUnlike)
		if n > 0 {
			checkAlongError(t, "no X", api.Ray{D: d}, two, api.ErrUnlike)
			checkAlongError(t, "no D", api.Ray{X: x}, two, api.ErrUnlike)
			checkAlongError(t, "no D, by 0", api.Ray{X: x}, sample.Frac(0, 1), api.ErrUnlike)
		}
		for _, bad := range sample.BadRats() {
			checkAlongError(t, "t", api.Ray{X: x, D: d}, bad, api.ErrForm)
			checkAlongError(t, "t and no D", api.Ray{X: append(slices.Clone(x), two)}, bad, api.ErrForm)
			checkAlongError(t, "one X more", api.Ray{X: append(slices.Clone(x), bad), D: d}, two, api.ErrForm)
			checkAlongError(t, "one D more", api.Ray{X: x, D: append(slices.Clone(d), bad)}, two, api.ErrForm)
			checkAlongError(t, "one X more and D shorter", api.Ray{X: append(slices.Clone(x), two, bad), D: d}, two, api.ErrForm)
			for place := range n {
				worse, wrong := slices.Clone(x), slices.Clone(d)
				worse[place], wrong[place] = bad, bad
				checkAlongError(t, "X", api.Ray{X: worse, D: d}, two, api.ErrForm)
				checkAlongError(t, "D", api.Ray{X: x, D: wrong}, two, api.ErrForm)
				checkAlongError(t, "D, by 0", api.Ray{X: x, D: wrong}, sample.Frac(0, 1), api.ErrForm)
				checkAlongError(t, "X alone", api.Ray{X: worse}, two, api.ErrForm)
				checkAlongError(t, "D alone", api.Ray{D: wrong}, two, api.ErrForm)
			}
		}
	}
}

// TestLengths: lists too short, too long or nil: false, without an error.
func TestLengths(t *testing.T) {
	zero := sample.Frac(0, 1)
	for _, k := range sample.Rays() {
		n := len(k.R.X)
		longer := func(x []api.Rat) []api.Rat { return append(slices.Clone(x), zero) }
		for name, d := range map[string][]api.Rat{"too long": longer(k.R.D), "too short": k.R.D[:n-1], "nil": nil, "empty": {}} {
			checkRecedes(t, name, k.M, d, false)
			checkValid(t, "D "+name, k.M, api.Ray{X: k.R.X, D: d}, false)
		}
		for name, x := range map[string][]api.Rat{"too long": longer(k.R.X), "too short": k.R.X[:n-1], "nil": nil, "empty": {}} {
			checkValid(t, "X "+name, k.M, api.Ray{X: x, D: k.R.D}, false)
		}
		checkValid(t, "both too long", k.M, api.Ray{X: longer(k.R.X), D: longer(k.R.D)}, false)
		checkValid(t, "both too short", k.M, api.Ray{X: k.R.X[:n-1], D: k.R.D[:n-1]}, false)
		checkValid(t, "nothing", k.M, api.Ray{}, false)
	}
	checkRecedes(t, "one of none", api.Model{Offset: zero}, nums(0), false)
	checkRecedes(t, "none of none", api.Model{Offset: zero}, []api.Rat{}, true)
}

// TestForms: a number that is not in form: false, without an error. Some stand for the very number that is asked for.
func TestForms(t *testing.T) {
	for _, k := range sample.Rays() {
		for place := range k.R.X {
			if !some(place, len(k.R.X)) {
				continue
			}
			for _, bad := range append(sample.BadRats(), unform(k.R.X[place])...) {
				x := slices.Clone(k.R.X)
				x[place] = bad
				checkValid(t, "X not in form", k.M, api.Ray{X: x, D: k.R.D}, false)
			}
			for _, bad := range append(sample.BadRats(), unform(k.R.D[place])...) {
				d := slices.Clone(k.R.D)
				d[place] = bad
				checkValid(t, "D not in form", k.M, api.Ray{X: k.R.X, D: d}, false)
				checkRecedes(t, "not in form", k.M, d, false)
			}
		}
	}
}

// unform: the same number, in ways that are not in form.
func unform(r api.Rat) []api.Rat {
	three := func(a []uint64) []uint64 { return limbs(new(big.Int).Mul(toInt(a), big.NewInt(3))) }
	return []api.Rat{
		{Neg: r.Neg, Num: append(slices.Clone(r.Num), 0), Den: r.Den},
		{Neg: r.Neg, Num: r.Num, Den: append(slices.Clone(r.Den), 0)},
		{Neg: r.Neg, Num: three(r.Num), Den: three(r.Den)},
	}
}

// TestBroken: the model's error, whatever stands beside it.
func TestBroken(t *testing.T) {
	for _, b := range sample.Brokens() {
		n := len(b.M.Cols)
		for _, x := range [][]api.Rat{nil, filled(n, sample.Frac(0, 1)), filled(n, sample.Frac(1, 1)), filled(n, api.Rat{}), filled(n+1, sample.Frac(1, 1))} {
			if is, e := ray.Recedes(b.M, x); is || e != b.E {
				t.Errorf("P13.1: Recedes, %s: %v, %d, want %d", b.Name, is, e, b.E)
			}
			for _, r := range []api.Ray{{X: x, D: x}, {X: x}, {D: x}, {X: filled(n, sample.Frac(0, 1)), D: x}} {
				if is, e := ray.Valid(b.M, r); is || e != b.E {
					t.Errorf("P13.1: Valid, %s: %v, %d, want %d", b.Name, is, e, b.E)
				}
			}
		}
	}
}
