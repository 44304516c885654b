package model_test

import (
	"testing"

	"tableau/api"
	"tableau/guard"
	"tableau/model"
	"tableau/sample"
)

// A caller makes one call, and tells all lists that it answers.
type caller struct {
	name string
	call func(b *guard.Book, m api.Model)
}

func callers() []caller {
	return []caller{
		{"Check", func(b *guard.Book, m api.Model) { model.Check(m) }},
		{"Columns", func(b *guard.Book, m api.Model) {
			l, _ := model.Columns(m)
			b.Columns(l)
		}},
		{"Equal", func(b *guard.Book, m api.Model) {
			model.Equal(m, sample.Three())
			model.Equal(sample.Three(), m)
			model.Equal(m, m)
		}},
		{"Copy", func(b *guard.Book, m api.Model) {
			c, _ := model.Copy(m)
			b.Model(c)
		}},
		{"CopyCol", func(b *guard.Book, m api.Model) {
			for _, c := range m.Cols {
				b.Col(model.CopyCol(c))
			}
		}},
		{"CopyRow", func(b *guard.Book, m api.Model) {
			for _, r := range m.Rows {
				b.Row(model.CopyRow(r))
			}
		}},
		{"Col, Row", func(b *guard.Book, m api.Model) {
			model.Col(m, "x")
			model.Row(m, "nobody")
		}},
		{"Crossed", func(b *guard.Book, m api.Model) {
			cols, rows, _ := model.Crossed(m)
			b.Ints(cols)
			b.Ints(rows)
		}},
	}
}

// TestMemory: with models that are well formed, and with some that are not.
func TestMemory(t *testing.T) {
	for _, c := range callers() {
		for i, m := range sample.Models() {
			checkMemory(t, c, i, guard.Model(m))
		}
		for i, broken := range sample.Brokens() {
			if i%7 == 0 {
				checkMemory(t, c, i, guard.Model(broken.M))
			}
		}
	}
}

// TestOneList: one list of limbs and one of terms in several places of a model.
func TestOneList(t *testing.T) {
	for _, c := range callers() {
		r := guard.Rat(sample.Frac(2, 3))
		x, terms := api.Ext{V: r}, guard.Terms([]api.Term{{Col: 0, A: r}, {Col: 1, A: r}})
		col := api.Col{Cost: r, Lo: x, Hi: x}
		m := api.Model{Offset: r, Cols: []api.Col{col, col}, Rows: []api.Row{{Name: "r", Lo: x, Hi: x, Terms: terms}, {Name: "s", Lo: x, Hi: x, Terms: terms}}}
		m.Cols[0].Name, m.Cols[1].Name = "x", "y"
		checkMemory(t, c, 0, m)
	}
}

func checkMemory(t *testing.T, c caller, number int, m api.Model) {
	t.Helper()
	fault := guard.Fault(func(b *guard.Book) { b.Model(m) }, func(b *guard.Book) { c.call(b, m) })
	if fault != "" {
		t.Errorf("%s of model %d: %s", c.name, number, fault)
	}
}
