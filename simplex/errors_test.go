package simplex_test

import (
	"testing"

	"tableau/api"
	"tableau/sample"
	"tableau/simplex"
)

// TestBroken: a model that is not well formed has its error, whatever the hint and the answer.
func TestBroken(t *testing.T) {
	one := sample.Frac(1, 1)
	for _, k := range sample.Brokens() {
		n, rows := len(k.M.Cols), len(k.M.Rows)
		if a, e := simplex.Solve(k.M); !sameAnswer(a, api.Answer{}) || e != k.E {
			t.Errorf("P16.2: Solve, %s: %v, %d, want %d", k.Name, a, e, k.E)
		}
		for _, b := range []api.Basis{{}, {Cols: filled(n, api.Lower), Rows: filled(rows, api.Basic)}, {Cols: filled(n, api.Status(9)), Rows: filled(rows, api.Status(-1))}, {Cols: filled(n+1, api.Basic)}} {
			if a, e := simplex.From(k.M, b); !sameAnswer(a, api.Answer{}) || e != k.E {
				t.Errorf("P16.2: From, %s: %v, %d, want %d", k.Name, a, e, k.E)
			}
		}
		for status := -1; status <= 4; status++ {
			for _, a := range []api.Answer{
				{}, {Value: one, Point: api.Point{X: filled(n, one), Y: filled(rows, one), Z: filled(n, one)}, Basis: api.Basis{Cols: filled(n, api.Lower), Rows: filled(rows, api.Basic)}},
				{Cert: api.Cert{RowLo: filled(rows, one), RowHi: filled(rows, one), ColLo: filled(n, one), ColHi: filled(n, one)}}, {Ray: api.Ray{X: filled(n, one), D: filled(n, one)}},
				{Value: api.Rat{Neg: true}, Ray: api.Ray{X: filled(n, api.Rat{}), D: filled(n+1, one)}},
			} {
				a.Status = status
				if is, e := simplex.Judge(k.M, a); is || e != k.E {
					t.Errorf("P16.1: Judge, %s, of status %d: %v, %d, want %d", k.Name, status, is, e, k.E)
				}
			}
		}
	}
}
