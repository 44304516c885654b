package farkas_test

import (
	"testing"

	"tableau/api"
	"tableau/farkas"
	"tableau/guard"
	"tableau/sample"
)

// A caller makes one call, and tells all lists that it answers.
type caller struct {
	name string
	call func(b *guard.Book, m api.Model, c api.Cert)
}

func callers() []caller {
	return []caller{
		{"Valid", func(b *guard.Book, m api.Model, c api.Cert) { farkas.Valid(m, c) }},
		{"Combine", func(b *guard.Book, m api.Model, c api.Cert) {
			left, right, _ := farkas.Combine(m, c)
			b.Rats(left)
			b.Rat(right)
		}},
		{"Crossing", func(b *guard.Book, m api.Model, c api.Cert) {
			crossing, _ := farkas.Crossing(m)
			b.Cert(crossing)
		}},
	}
}

func checkMemory(t *testing.T, call caller, m api.Model, c api.Cert) {
	t.Helper()
	handed := func(b *guard.Book) {
		b.Model(m)
		b.Cert(c)
	}
	if fault := guard.Fault(handed, func(b *guard.Book) { call.call(b, m, c) }); fault != "" {
		t.Errorf("%s of %d columns and %d rows: %s", call.name, len(m.Cols), len(m.Rows), fault)
	}
}

// TestMemory: with all kinds of models and multipliers, those too that are not as they must be.
func TestMemory(t *testing.T) {
	for _, call := range callers() {
		for _, m := range sample.Models() {
			for _, c := range multipliers(m) {
				checkMemory(t, call, guard.Model(m), guard.Cert(inward(m, c)))
			}
			checkMemory(t, call, guard.Model(m), guard.Cert(even(m, api.Rat{})))
			checkMemory(t, call, guard.Model(m), guard.Cert(api.Cert{}))
		}
		for _, k := range sample.Certs() {
			checkMemory(t, call, guard.Model(k.M), guard.Cert(k.C))
		}
		for i, b := range sample.Brokens() {
			if i%7 == 0 {
				checkMemory(t, call, guard.Model(b.M), guard.Cert(even(b.M, sample.Frac(1, 1))))
			}
		}
	}
}

// TestOneList: one list of limbs in all places of a model and of the multipliers.
func TestOneList(t *testing.T) {
	for _, call := range callers() {
		for _, hi := range []int{1, 2} {
			r, h := guard.Rat(sample.Frac(2, 3)), guard.Rat(sample.Frac(hi, 3))
			lo, up := api.Ext{V: r}, api.Ext{V: h}
			col := func(name string) api.Col { return api.Col{Name: name, Cost: r, Lo: lo, Hi: up} }
			row := api.Row{Name: "r", Lo: lo, Hi: up, Terms: guard.Terms([]api.Term{{Col: 1, A: r}})}
			m := api.Model{Offset: r, Cols: []api.Col{col("x"), col("y")}, Rows: []api.Row{row, row}}
			m.Rows[1].Name = "s"
			list := []api.Rat{r, r}
			checkMemory(t, call, m, api.Cert{RowLo: list, RowHi: list, ColLo: list, ColHi: list})
		}
	}
}
