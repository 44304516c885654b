package point_test

import (
	"testing"

	"tableau/api"
	"tableau/guard"
	"tableau/point"
	"tableau/sample"
)

// A caller makes one call, and tells all lists that it answers.
type caller struct {
	name string
	call func(b *guard.Book, m api.Model, x []api.Rat)
}

func callers() []caller {
	return []caller{
		{"Activities", func(b *guard.Book, m api.Model, x []api.Rat) {
			acts, _ := point.Activities(m, x)
			b.Rats(acts)
		}},
		{"Value", func(b *guard.Book, m api.Model, x []api.Rat) {
			v, _ := point.Value(m, x)
			b.Rat(v)
		}},
		{"Feasible", func(b *guard.Book, m api.Model, x []api.Rat) { point.Feasible(m, x) }},
		{"Broken", func(b *guard.Book, m api.Model, x []api.Rat) {
			cols, rows, _ := point.Broken(m, x)
			b.Ints(cols)
			b.Ints(rows)
		}},
		{"Sum", func(b *guard.Book, m api.Model, x []api.Rat) { b.Rat(point.Sum(x...)) }},
		{"Numbers", func(b *guard.Book, m api.Model, x []api.Rat) { point.Numbers(x, len(m.Cols)) }},
	}
}

func checkMemory(t *testing.T, c caller, m api.Model, x []api.Rat) {
	t.Helper()
	handed := func(b *guard.Book) {
		b.Model(m)
		b.Rats(x)
	}
	if fault := guard.Fault(handed, func(b *guard.Book) { c.call(b, m, x) }); fault != "" {
		t.Errorf("%s of %d columns and %d rows: %s", c.name, len(m.Cols), len(m.Rows), fault)
	}
}

// TestMemory: with all kinds of models and numbers, those too that are not as they must be.
func TestMemory(t *testing.T) {
	for _, c := range callers() {
		for _, m := range sample.Models() {
			for _, x := range lists(m) {
				checkMemory(t, c, guard.Model(m), guard.Rats(x))
			}
			checkMemory(t, c, guard.Model(m), guard.Rats(filled(len(m.Cols), api.Rat{})))
			checkMemory(t, c, guard.Model(m), guard.Rats(filled(len(m.Cols)+1, sample.Frac(1, 1))))
		}
		for i, b := range sample.Brokens() {
			if i%7 == 0 {
				checkMemory(t, c, guard.Model(b.M), guard.Rats(filled(len(b.M.Cols), sample.Frac(1, 1))))
			}
		}
	}
}

// TestOneList: one list of limbs in all places of a model and of the numbers.
func TestOneList(t *testing.T) {
	for _, c := range callers() {
		r := guard.Rat(sample.Frac(2, 3))
		x := api.Ext{V: r}
		col := func(name string) api.Col { return api.Col{Name: name, Cost: r, Lo: x, Hi: x} }
		row := api.Row{Name: "r", Lo: x, Hi: x, Terms: guard.Terms([]api.Term{{Col: 1, A: r}})}
		m := api.Model{Offset: r, Cols: []api.Col{col("x"), col("y")}, Rows: []api.Row{row}}
		checkMemory(t, c, m, []api.Rat{r, r})
	}
}
