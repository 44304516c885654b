package basis_test

import (
	"testing"

	"tableau/api"
	"tableau/basis"
	"tableau/guard"
	"tableau/sample"
)

// A caller makes one call, and tells all lists that it answers.
type caller struct {
	name string
	call func(book *guard.Book, m api.Model, b api.Basis, p api.Point)
}

func callers() []caller {
	return []caller{
		{"Valid", func(book *guard.Book, m api.Model, b api.Basis, p api.Point) { basis.Valid(m, b) }},
		{"Point", func(book *guard.Book, m api.Model, b api.Basis, p api.Point) {
			own, _ := basis.Point(m, b)
			book.Point(own)
		}},
		{"Optimal", func(book *guard.Book, m api.Model, b api.Basis, p api.Point) { basis.Optimal(m, b, p) }},
		{"Slack", func(book *guard.Book, m api.Model, b api.Basis, p api.Point) {
			slack, _ := basis.Slack(m)
			book.Basis(slack)
		}},
	}
}

func checkMemory(t *testing.T, c caller, m api.Model, b api.Basis, p api.Point) {
	t.Helper()
	handed := func(book *guard.Book) {
		book.Model(m)
		book.Basis(b)
		book.Point(p)
	}
	if fault := guard.Fault(handed, func(book *guard.Book) { c.call(book, m, b, p) }); fault != "" {
		t.Errorf("%s of %d columns and %d rows: %s", c.name, len(m.Cols), len(m.Rows), fault)
	}
}

// TestMemory: with all kinds of models, bases and points, those too that are not as they must be.
func TestMemory(t *testing.T) {
	for _, c := range callers() {
		for _, k := range sample.Bases() {
			m, b, p := guard.Model, guard.Basis, guard.Point
			checkMemory(t, c, m(k.M), b(k.B), p(k.P))
			checkMemory(t, c, m(k.M), b(slackOf(k.M)), p(k.P))
			checkMemory(t, c, m(k.M), b(k.B), p(api.Point{X: k.P.X, Y: k.P.X, Z: k.P.Z}))
			checkMemory(t, c, m(k.M), b(api.Basis{Cols: k.B.Cols, Rows: append(cloned(k.B).Rows, 9)}), p(api.Point{X: filled(3, api.Rat{})}))
		}
		for _, m := range sample.Models() {
			n := len(m.Cols)
			checkMemory(t, c, guard.Model(m), guard.Basis(slackOf(m)), guard.Point(api.Point{X: filled(n, sample.Frac(1, 2)), Y: filled(len(m.Rows), sample.Frac(0, 1)), Z: filled(n, sample.Frac(0, 1))}))
		}
		for i, k := range sample.Brokens() {
			if i%7 == 0 {
				checkMemory(t, c, guard.Model(k.M), guard.Basis(of(2, 1, 2, 0)), guard.Point(api.Point{X: nums(1, 2, 3)}))
			}
		}
	}
}

// TestOneList: one list of limbs in all places of a model and of the point, and one of statuses.
func TestOneList(t *testing.T) {
	for _, c := range callers() {
		r := guard.Rat(sample.Frac(2, 3))
		x := api.Ext{V: r}
		col := func(name string) api.Col { return api.Col{Name: name, Cost: r, Lo: x, Hi: x} }
		row := api.Row{Name: "r", Lo: x, Hi: x, Terms: guard.Terms([]api.Term{{Col: 1, A: r}})}
		m := api.Model{Offset: r, Cols: []api.Col{col("x"), col("y")}, Rows: []api.Row{row, row}}
		m.Rows[1].Name = "s"
		list, upperBasic := []api.Rat{r, r}, []api.Status{api.Upper, api.Basic}
		if is, e := basis.Valid(m, api.Basis{Cols: upperBasic, Rows: upperBasic}); !is || e != api.OK {
			t.Fatalf("P14.1: Valid: %v, %d", is, e)
		}
		checkMemory(t, c, m, api.Basis{Cols: upperBasic, Rows: upperBasic}, api.Point{X: list, Y: list, Z: list})
	}
}
