package cross_test

import (
	"testing"

	"tableau/api"
	"tableau/cross"
	"tableau/guard"
	"tableau/sample"
	"tableau/trial"
)

// checkFault: what is handed in stays as it is, and what is answered is new memory.
func checkFault(t *testing.T, m api.Model, p api.Point, hint api.Basis) {
	t.Helper()
	handed := func(book *guard.Book) {
		book.Model(m)
		book.Point(p)
		book.Basis(hint)
	}
	fault := guard.Fault(handed, func(book *guard.Book) {
		b, q, _ := cross.Over(m, p, hint)
		book.Basis(b)
		book.Point(q)
	})
	if fault != "" {
		t.Errorf("Over of %d columns and %d rows: %s", len(m.Cols), len(m.Rows), fault)
	}
}

// checkMemory hands in copies with marks in spare room behind each list.
func checkMemory(t *testing.T, m api.Model, p api.Point, hint api.Basis) {
	t.Helper()
	checkFault(t, guard.Model(m), guard.Point(p), guard.Basis(hint))
}

// TestMemory: with hints that are answered as they are, with such that aren't, and with what is refused.
func TestMemory(t *testing.T) {
	for seed, k := range sample.Bases() {
		if len(k.M.Rows) > 20 {
			continue
		}
		checkMemory(t, k.M, k.P, k.B)
		checkMemory(t, k.M, k.P, api.Basis{})
		for _, b := range walk(k.M, seed)[:1] {
			checkMemory(t, k.M, k.P, b)
		}
		checkMemory(t, k.M, api.Point{X: k.P.Z, Y: k.P.Y, Z: k.P.X}, k.B)
		m, p := sample.Stretched(k.M, k.P)
		checkMemory(t, m, p, k.B)
		checkMemory(t, m, p, api.Basis{Cols: filled(3, api.Status(7))})
	}
	for _, k := range sample.Kkts() {
		if len(k.M.Rows) < 20 {
			checkMemory(t, k.M, k.P, slackOf(k.M))
		}
	}
	for i, k := range sample.Brokens() {
		if i%7 == 0 {
			checkMemory(t, k.M, api.Point{X: nums(1, 2, 3), Y: filled(3, api.Rat{})}, api.Basis{Cols: filled(3, api.Lower)})
		}
	}
	for seed := range 60 {
		m := sample.Prunable(seed)
		for _, c := range trial.Of(m).Bases {
			checkMemory(t, m, c.Point, c.Basis)
		}
	}
}

// TestOneList: one list of limbs in all places of a model and of the point, one of numbers as X, Y and Z, and one of statuses for columns and rows.
func TestOneList(t *testing.T) {
	for _, hint := range []api.Status{api.Lower, api.Upper} {
		nought, one := guard.Rat(sample.Frac(0, 1)), guard.Rat(sample.Frac(1, 1))
		at := api.Ext{V: nought}
		col := func(name string) api.Col { return api.Col{Name: name, Cost: nought, Lo: at, Hi: at} }
		row := func(name string) api.Row {
			return api.Row{Name: name, Lo: at, Hi: at, Terms: guard.Terms([]api.Term{{Col: 1, A: one}})}
		}
		m := api.Model{Offset: nought, Cols: []api.Col{col("x"), col("y")}, Rows: []api.Row{row("r"), row("s")}}
		for i := range m.Rows {
			m.Rows[i].Terms[0].A = one
		}
		list, status := []api.Rat{nought, nought}, []api.Status{hint, api.Basic}
		p, b := api.Point{X: list, Y: list, Z: list}, api.Basis{Cols: status, Rows: status}
		if _, _, own := checkOver(t, m, p, b); !own {
			t.Fatalf("%v is no optimal basis of %v", b, m)
		}
		checkFault(t, m, p, b)
	}
}
