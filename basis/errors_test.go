package basis_test

import (
	"testing"

	"tableau/api"
	"tableau/basis"
	"tableau/sample"
)

// TestLengths: lists of one status too few and too many, and nil; each status there is stands for the one too many.
func TestLengths(t *testing.T) {
	for _, k := range sample.Bases() {
		n, rows := len(k.B.Cols), len(k.B.Rows)
		for s := api.Status(-1); s <= 4; s++ {
			checkValid(t, "a column too many", k.M, api.Basis{Cols: append(cloned(k.B).Cols, s), Rows: k.B.Rows}, false)
			checkValid(t, "a row too many", k.M, api.Basis{Cols: k.B.Cols, Rows: append(cloned(k.B).Rows, s)}, false)
			checkValid(t, "both too many", k.M, api.Basis{Cols: append(cloned(k.B).Cols, s), Rows: append(cloned(k.B).Rows, s)}, false)
		}
		if n > 0 {
			checkValid(t, "a column too few", k.M, api.Basis{Cols: k.B.Cols[:n-1], Rows: k.B.Rows}, false)
			checkValid(t, "the first column too few", k.M, api.Basis{Cols: k.B.Cols[1:], Rows: k.B.Rows}, false)
			checkValid(t, "no columns", k.M, api.Basis{Rows: k.B.Rows}, false)
		}
		if rows > 0 {
			checkValid(t, "a row too few", k.M, api.Basis{Cols: k.B.Cols, Rows: k.B.Rows[:rows-1]}, false)
			checkValid(t, "the first row too few", k.M, api.Basis{Cols: k.B.Cols, Rows: k.B.Rows[1:]}, false)
			checkValid(t, "no rows", k.M, api.Basis{Cols: k.B.Cols}, false)
		}
		if n != rows {
			checkValid(t, "rows for columns", k.M, api.Basis{Cols: k.B.Rows, Rows: k.B.Cols}, false)
		}
		if n+rows > 0 {
			checkValid(t, "nothing", k.M, api.Basis{}, false)
		}
		checkValid(t, "far too many", k.M, api.Basis{Cols: statuses(200, api.Lower), Rows: statuses(200, api.Basic)}, false)
	}
	nothing := api.Model{Offset: sample.Frac(3, 1)}
	for _, b := range []api.Basis{{}, {Cols: []api.Status{}}, {Rows: []api.Status{}}, {Cols: []api.Status{}, Rows: []api.Status{}}} {
		checkValid(t, "nothing of nothing", nothing, b, true)
		checkPoint(t, "nothing of nothing", nothing, b, api.Point{})
		checkOptimal(t, "nothing of nothing", nothing, b, api.Point{}, true)
	}
}

// TestBroken: a model that is not well formed has its error, whatever the basis and the point.
func TestBroken(t *testing.T) {
	one := sample.Frac(1, 1)
	for _, k := range sample.Brokens() {
		n, rows := len(k.M.Cols), len(k.M.Rows)
		p := api.Point{X: filled(n, one), Y: filled(rows, sample.Frac(0, 1)), Z: filled(n, one)}
		for _, b := range []api.Basis{{}, {Cols: statuses(n, api.Lower), Rows: statuses(rows, api.Basic)}, {Cols: statuses(n, 9), Rows: statuses(rows, -1)}, {Cols: statuses(n+1, api.Basic), Rows: statuses(rows, api.Basic)}} {
			if is, e := basis.Valid(k.M, b); is || e != k.E {
				t.Errorf("P14.1: Valid, %s: %v, %d, want %d", k.Name, is, e, k.E)
			}
			if p, e := basis.Point(k.M, b); !isNone(p) || e != k.E {
				t.Errorf("P14.1: Point, %s: %v, %d, want %d", k.Name, p, e, k.E)
			}
			for _, p := range []api.Point{{}, p, {X: filled(n, api.Rat{}), Y: p.Y, Z: p.Z}, {X: append(p.X, one), Y: p.Y, Z: p.Z}} {
				if is, e := basis.Optimal(k.M, b, p); is || e != k.E {
					t.Errorf("P14.2: Optimal, %s: %v, %d, want %d", k.Name, is, e, k.E)
				}
			}
		}
		if b, e := basis.Slack(k.M); b.Cols != nil || b.Rows != nil || e != k.E {
			t.Errorf("P14.3: Slack, %s: %v, %d, want %d", k.Name, b, e, k.E)
		}
	}
}
