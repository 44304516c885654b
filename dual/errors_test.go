package dual_test

import (
	"testing"

	"tableau/api"
	"tableau/dual"
	"tableau/sample"
)

func isNone(x api.Ext) bool { return x.Inf == 0 && !x.V.Neg && x.V.Num == nil && x.V.Den == nil }

// checkError: Reduced and Bound answer this error, and nothing beside it.
func checkError(t *testing.T, name string, m api.Model, y []api.Rat, want api.Errno) {
	t.Helper()
	if z, e := dual.Reduced(m, y); z != nil || e != want {
		t.Errorf("P11.1: Reduced, %s: %v, %d, want %d", name, z, e, want)
	}
	if b, e := dual.Bound(m, y); !isNone(b) || e != want {
		t.Errorf("P11.2: Bound, %s: %v, %d, want %d", name, b, e, want)
	}
}

// TestWrongLists: numbers not in form, too few and too many of them, and both.
func TestWrongLists(t *testing.T) {
	one := sample.Frac(1, 1)
	for _, m := range sample.Models() {
		n := len(m.Rows)
		checkError(t, "one too many", m, filled(n+1, one), api.ErrUnlike)
		checkError(t, "many too many", m, filled(n+65, one), api.ErrUnlike)
		if n > 0 {
			checkError(t, "one too few", m, filled(n-1, one), api.ErrUnlike)
			checkError(t, "nil", m, nil, api.ErrUnlike)
			checkError(t, "none", m, []api.Rat{}, api.ErrUnlike)
		}
		if c := len(m.Cols); c != n {
			checkError(t, "as many as columns", m, filled(c, one), api.ErrUnlike)
		}
		for _, bad := range sample.BadRats() {
			checkError(t, "one too many, which is not in form", m, append(filled(n, one), bad), api.ErrForm)
			checkError(t, "all not in form and too many", m, filled(n+1, bad), api.ErrForm)
			for place := range n {
				if place > 3 && place < n-1 {
					continue
				}
				y := filled(n, one)
				y[place] = bad
				checkError(t, "not in form", m, y, api.ErrForm)
				checkError(t, "not in form, and too few", m, y[place:place+1], api.ErrForm)
			}
		}
	}
}

// TestBroken: of the model's error and of the list's the least; Holds answers the model's, whatever the point.
func TestBroken(t *testing.T) {
	one := sample.Frac(1, 1)
	for _, b := range sample.Brokens() {
		cols, rows := len(b.M.Cols), len(b.M.Rows)
		checkError(t, b.Name, b.M, filled(rows, one), b.E)
		checkError(t, b.Name+" and a number too many", b.M, filled(rows+1, one), min(b.E, api.ErrUnlike))
		checkError(t, b.Name+" and no numbers", b.M, nil, min(b.E, api.ErrUnlike))
		checkError(t, b.Name+" and a number not in form", b.M, append(filled(rows, one), api.Rat{}), min(b.E, api.ErrForm))
		checkError(t, b.Name+" and numbers not in form", b.M, filled(rows+1, sample.BadRats()[4]), min(b.E, api.ErrForm))
		for _, p := range []api.Point{{}, {X: filled(cols, one), Y: filled(rows, one), Z: filled(cols, one)}, {X: filled(cols, api.Rat{}), Y: filled(rows, api.Rat{}), Z: filled(cols, api.Rat{})}, {X: filled(cols+1, one)}} {
			if is, e := dual.Holds(b.M, p); is || e != b.E {
				t.Errorf("P11.1: Holds, %s: %v, %d, want %d", b.Name, is, e, b.E)
			}
		}
	}
}
