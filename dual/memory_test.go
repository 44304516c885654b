package dual_test

import (
	"testing"

	"tableau/api"
	"tableau/dual"
	"tableau/guard"
	"tableau/sample"
)

// A caller makes one call, and tells all lists that it answers.
type caller struct {
	name string
	call func(b *guard.Book, m api.Model, p api.Point)
}

func callers() []caller {
	return []caller{
		{"Reduced", func(b *guard.Book, m api.Model, p api.Point) {
			z, _ := dual.Reduced(m, p.Y)
			b.Rats(z)
		}},
		{"Holds", func(b *guard.Book, m api.Model, p api.Point) { dual.Holds(m, p) }},
		{"Bound", func(b *guard.Book, m api.Model, p api.Point) {
			x, _ := dual.Bound(m, p.Y)
			b.Ext(x)
		}},
	}
}

func checkMemory(t *testing.T, c caller, m api.Model, p api.Point) {
	t.Helper()
	handed := func(b *guard.Book) {
		b.Model(m)
		b.Point(p)
	}
	if fault := guard.Fault(handed, func(b *guard.Book) { c.call(b, m, p) }); fault != "" {
		t.Errorf("%s of %d columns and %d rows: %s", c.name, len(m.Cols), len(m.Rows), fault)
	}
}

// TestMemory: with all kinds of models, multipliers and points, those too that are not as they must be.
func TestMemory(t *testing.T) {
	for _, c := range callers() {
		for _, m := range sample.Models() {
			ones := filled(len(m.Cols), sample.Frac(1, 1))
			for _, y := range multipliers(len(m.Rows)) {
				checkMemory(t, c, guard.Model(m), guard.Point(api.Point{X: ones, Y: y, Z: ones}))
			}
			checkMemory(t, c, guard.Model(m), guard.Point(api.Point{X: ones, Y: filled(len(m.Rows), api.Rat{}), Z: ones}))
			checkMemory(t, c, guard.Model(m), guard.Point(api.Point{X: ones, Y: filled(len(m.Rows)+1, sample.Frac(1, 1)), Z: ones}))
		}
		for _, k := range sample.Kkts() {
			checkMemory(t, c, guard.Model(k.M), guard.Point(k.P))
		}
		for i, b := range sample.Brokens() {
			if i%7 == 0 {
				checkMemory(t, c, guard.Model(b.M), guard.Point(api.Point{Y: filled(len(b.M.Rows), sample.Frac(1, 1))}))
			}
		}
	}
}

// TestOneList: one list of limbs in all places of a model and of the point.
func TestOneList(t *testing.T) {
	for _, c := range callers() {
		r := guard.Rat(sample.Frac(2, 3))
		x := api.Ext{V: r}
		col := func(name string) api.Col { return api.Col{Name: name, Cost: r, Lo: x, Hi: x} }
		row := api.Row{Name: "r", Lo: x, Hi: x, Terms: guard.Terms([]api.Term{{Col: 1, A: r}})}
		m := api.Model{Offset: r, Cols: []api.Col{col("x"), col("y")}, Rows: []api.Row{row, row}}
		m.Rows[1].Name = "s"
		list := []api.Rat{r, r}
		checkMemory(t, c, m, api.Point{X: list, Y: list, Z: list})
	}
}
