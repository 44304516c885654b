package simplex_test

import (
	"testing"

	"tableau/api"
	"tableau/guard"
	"tableau/sample"
	"tableau/simplex"
)

// A caller makes one call, and tells all lists that it answers.
type caller struct {
	name string
	call func(book *guard.Book, m api.Model, b api.Basis, a api.Answer)
}

func callers() []caller {
	return []caller{
		{"Solve", func(book *guard.Book, m api.Model, b api.Basis, a api.Answer) {
			own, _ := simplex.Solve(m)
			book.Answer(own)
		}},
		{"From", func(book *guard.Book, m api.Model, b api.Basis, a api.Answer) {
			own, _ := simplex.From(m, b)
			book.Answer(own)
		}},
		{"Judge", func(book *guard.Book, m api.Model, b api.Basis, a api.Answer) { simplex.Judge(m, a) }},
	}
}

// checkMemory hands in copies with marks in spare room behind each list.
func checkMemory(t *testing.T, m api.Model, b api.Basis, a api.Answer) {
	t.Helper()
	for _, c := range callers() {
		checkFault(t, c, guard.Model(m), guard.Basis(b), guard.Answer(a))
	}
}

func checkFault(t *testing.T, c caller, m api.Model, b api.Basis, a api.Answer) {
	t.Helper()
	handed := func(book *guard.Book) {
		book.Model(m)
		book.Basis(b)
		book.Answer(a)
	}
	if fault := guard.Fault(handed, func(book *guard.Book) { c.call(book, m, b, a) }); fault != "" {
		t.Errorf("%s of %d columns and %d rows: %s", c.name, len(m.Cols), len(m.Rows), fault)
	}
}

// TestMemory: with models of all kinds and statuses, hints and answers, those too that are not as they must be.
func TestMemory(t *testing.T) {
	for seed := range 80 {
		m := sample.Mixed(seed)
		a, _ := simplex.Solve(m)
		checkMemory(t, m, a.Basis, a)
		for _, b := range walk(m, seed)[1:] {
			a.Value = sample.Frac(1, 7)
			checkMemory(t, m, b, a)
		}
	}
	for _, k := range answers() {
		if len(k.m.Rows) < 20 {
			checkMemory(t, k.m, k.a.Basis, k.a)
			checkMemory(t, k.m, api.Basis{Cols: filled(3, api.Status(7))}, api.Answer{Status: 1, Value: api.Rat{Neg: true}, Point: api.Point{X: nums(1)}, Ray: api.Ray{D: filled(2, api.Rat{})}})
		}
	}
	for _, m := range sample.Models() {
		checkMemory(t, m, slackOf(m), api.Answer{})
	}
	for i, k := range sample.Brokens() {
		if i%7 == 0 {
			checkMemory(t, k.M, of(2, 1, 2, 0), api.Answer{Status: api.Optimal, Point: api.Point{X: nums(1, 2, 3)}})
		}
	}
}

// TestOneList: one list of limbs in all places of a model and of an answer, and one of statuses.
func TestOneList(t *testing.T) {
	for _, cost := range []api.Rat{sample.Frac(2, 3), sample.Frac(-2, 3)} {
		for kind, bounds := range [][2]int{{0, 0}, {0, 1}, {-1, 0}, {-1, 1}} {
			for _, c := range callers() {
				r := guard.Rat(cost)
				bound := func(inf int) api.Ext {
					if inf != 0 {
						return api.Ext{Inf: inf, V: guard.Rat(sample.Frac(0, 1))}
					}
					return api.Ext{V: r}
				}
				col := func(name string) api.Col {
					return api.Col{Name: name, Cost: r, Lo: bound(bounds[0]), Hi: bound(bounds[1])}
				}
				row := api.Row{Name: "r", Lo: bound(-1), Hi: bound(0), Terms: guard.Terms([]api.Term{{Col: 0, A: r}, {Col: 1, A: r}})}
				m := api.Model{Offset: r, Cols: []api.Col{col("x"), col("y")}, Rows: []api.Row{row, row}}
				m.Rows[1].Name = "s"
				list, status := []api.Rat{r, r}, []api.Status{api.Upper, api.Basic}
				a := api.Answer{Status: kind, Value: r, Point: api.Point{X: list, Y: list, Z: list}, Basis: api.Basis{Cols: status, Rows: status}, Ray: api.Ray{X: list, D: list}}
				checkFault(t, c, m, a.Basis, a)
			}
		}
	}
}
