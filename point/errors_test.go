package point_test

import (
	"testing"

	"tableau/api"
	"tableau/point"
	"tableau/sample"
)

// checkError: all four calls answer this error, and nothing beside it.
func checkError(t *testing.T, name string, m api.Model, x []api.Rat, want api.Errno) {
	t.Helper()
	if acts, e := point.Activities(m, x); acts != nil || e != want {
		t.Errorf("P10.1: Activities, %s: %v, %d, want %d", name, acts, e, want)
	}
	if v, e := point.Value(m, x); !isNone(v) || e != want {
		t.Errorf("P10.1: Value, %s: %v, %d, want %d", name, v, e, want)
	}
	if is, e := point.Feasible(m, x); is || e != want {
		t.Errorf("P10.1: Feasible, %s: %v, %d, want %d", name, is, e, want)
	}
	if cols, rows, e := point.Broken(m, x); cols != nil || rows != nil || e != want {
		t.Errorf("P10.1: Broken, %s: %v, %v, %d, want %d", name, cols, rows, e, want)
	}
}

// wrong: lists that are not n numbers in form, with the error of each.
func wrong(n int) map[api.Errno][][]api.Rat {
	out := map[api.Errno][][]api.Rat{api.ErrUnlike: {filled(n+1, sample.Frac(1, 1)), filled(n+65, sample.Frac(1, 1))}}
	for _, bad := range sample.BadRats() {
		short := []api.Rat{bad}
		long := append(filled(n, sample.Frac(1, 1)), bad)
		out[api.ErrForm] = append(out[api.ErrForm], short, long, filled(n+1, bad), append(filled(n+7, sample.Frac(1, 1)), bad))
		for place := range n {
			x := filled(n, sample.Frac(1, 1))
			x[place] = bad
			out[api.ErrForm] = append(out[api.ErrForm], x)
		}
	}
	if n > 0 {
		out[api.ErrUnlike] = append(out[api.ErrUnlike], nil, []api.Rat{}, filled(n-1, sample.Frac(1, 1)))
	}
	return out
}

// TestWrongLists: numbers not in form, too few and too many of them, and both.
func TestWrongLists(t *testing.T) {
	for _, m := range sample.Models() {
		if len(m.Cols) == api.MaxCols {
			continue // at just some of its places, below
		}
		for want, lists := range wrong(len(m.Cols)) {
			for _, x := range lists {
				checkError(t, "wrong numbers", m, x, want)
			}
		}
	}
	full := sample.Full()
	checkError(t, "63 numbers", full, filled(63, sample.Frac(1, 1)), api.ErrUnlike)
	checkError(t, "65 numbers", full, filled(65, sample.Frac(1, 1)), api.ErrUnlike)
	last := filled(64, sample.Frac(1, 1))
	last[63] = sample.BadRats()[4]
	checkError(t, "the 64th number", full, last, api.ErrForm)
}

// TestBroken: of the model's error and of the list's the least.
func TestBroken(t *testing.T) {
	for _, b := range sample.Brokens() {
		n := len(b.M.Cols)
		checkError(t, b.Name, b.M, filled(n, sample.Frac(1, 1)), b.E)
		checkError(t, b.Name+" and a number too many", b.M, filled(n+1, sample.Frac(1, 1)), min(b.E, api.ErrUnlike))
		checkError(t, b.Name+" and no numbers", b.M, nil, min(b.E, api.ErrUnlike))
		checkError(t, b.Name+" and a number not in form", b.M, append(filled(n, sample.Frac(1, 1)), api.Rat{}), min(b.E, api.ErrForm))
		checkError(t, b.Name+" and numbers not in form", b.M, filled(n+n%2+1, sample.BadRats()[4]), min(b.E, api.ErrForm))
	}
}

func TestNumbers(t *testing.T) {
	for n := range 4 {
		if e := point.Numbers(filled(n, sample.Frac(2, 3)), n); e != api.OK {
			t.Errorf("Numbers of %d numbers: %d", n, e)
		}
		for want, lists := range wrong(n) {
			for _, x := range lists {
				if e := point.Numbers(x, n); e != want {
					t.Errorf("Numbers of %v for %d: %d, want %d", x, n, e, want)
				}
			}
		}
	}
}
