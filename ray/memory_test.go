package ray_test

import (
	"testing"

	"tableau/api"
	"tableau/guard"
	"tableau/ray"
	"tableau/sample"
)

// A caller makes one call, and tells all lists that it answers.
type caller struct {
	name string
	call func(b *guard.Book, m api.Model, r api.Ray, by api.Rat)
}

func callers() []caller {
	return []caller{
		{"Recedes", func(b *guard.Book, m api.Model, r api.Ray, by api.Rat) { ray.Recedes(m, r.D) }},
		{"Valid", func(b *guard.Book, m api.Model, r api.Ray, by api.Rat) { ray.Valid(m, r) }},
		{"Along", func(b *guard.Book, m api.Model, r api.Ray, by api.Rat) {
			x, _ := ray.Along(r, by)
			b.Rats(x)
		}},
	}
}

func checkMemory(t *testing.T, c caller, m api.Model, r api.Ray, by api.Rat) {
	t.Helper()
	handed := func(b *guard.Book) {
		b.Model(m)
		b.Ray(r)
		b.Rat(by)
	}
	if fault := guard.Fault(handed, func(b *guard.Book) { c.call(b, m, r, by) }); fault != "" {
		t.Errorf("%s of %d columns and %d rows: %s", c.name, len(m.Cols), len(m.Rows), fault)
	}
}

// TestMemory: with all kinds of models, rays and numbers, those too that are not as they must be.
func TestMemory(t *testing.T) {
	for _, c := range callers() {
		for _, k := range sample.Rays() {
			for _, by := range append(sample.Rats(), api.Rat{}, sample.BadRats()[4]) {
				checkMemory(t, c, guard.Model(k.M), guard.Ray(k.R), guard.Rat(by))
			}
			checkMemory(t, c, guard.Model(k.M), guard.Ray(api.Ray{X: k.R.X}), guard.Rat(sample.Frac(1, 1)))
			checkMemory(t, c, guard.Model(k.M), guard.Ray(api.Ray{D: k.R.D}), guard.Rat(sample.Frac(1, 1)))
		}
		for _, m := range sample.Models() {
			for _, d := range directions(len(m.Cols)) {
				checkMemory(t, c, guard.Model(m), guard.Ray(api.Ray{X: filled(len(d), sample.Frac(0, 1)), D: d}), guard.Rat(sample.Frac(0, 1)))
			}
			checkMemory(t, c, guard.Model(m), guard.Ray(api.Ray{D: filled(len(m.Cols), api.Rat{})}), guard.Rat(sample.Frac(1, 1)))
		}
		for i, b := range sample.Brokens() {
			if i%7 == 0 {
				checkMemory(t, c, guard.Model(b.M), guard.Ray(api.Ray{X: nums(1, 2, 3), D: nums(0, 1, 0)}), guard.Rat(sample.Frac(1, 2)))
			}
		}
	}
}

// TestOneList: one list of limbs in all places of a model and of the ray.
func TestOneList(t *testing.T) {
	for _, c := range callers() {
		r := guard.Rat(sample.Frac(2, 3))
		at := api.Ext{V: r}
		col := func(name string) api.Col { return api.Col{Name: name, Cost: r, Lo: at, Hi: guard.Ext(sample.High())} }
		row := api.Row{Name: "r", Lo: at, Hi: guard.Ext(sample.High()), Terms: guard.Terms([]api.Term{{Col: 1, A: r}})}
		m := api.Model{Offset: r, Cols: []api.Col{col("x"), col("y")}, Rows: []api.Row{row}}
		list := []api.Rat{r, r}
		checkMemory(t, c, m, api.Ray{X: list, D: list}, r)
	}
}
