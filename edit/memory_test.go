package edit_test

import (
	"testing"

	"tableau/api"
	"tableau/guard"
	"tableau/sample"
)

// TestMemory: with models that are well formed and with some that are not, with factors that change nothing, and with what is not in form.
func TestMemory(t *testing.T) {
	for _, c := range callers() {
		for i, m := range sample.Models() {
			cols, rows := append(places(len(m.Cols)), -1), append(places(len(m.Rows)), 64)
			for k := range max(len(cols), len(rows)) {
				in := good()
				in.col, in.row, in.number = cols[k%len(cols)], rows[k%len(rows)], sample.Rats()[(i+k)%len(sample.Rats())]
				if len(m.Cols) < 3 {
					in.newRow.Terms = nil
				}
				checkMemory(t, c, guard.Model(m), guarded(in))
			}
		}
		for _, in := range c.bads {
			checkMemory(t, c, guard.Model(sample.Three()), guarded(in))
		}
		for i, b := range sample.Brokens() {
			if i%7 == 0 {
				checkMemory(t, c, guard.Model(b.M), guarded(good()))
			}
		}
	}
}

// TestNoChange: numbers that leave all as it was are handed out in new memory, too.
func TestNoChange(t *testing.T) {
	for _, c := range callers() {
		for _, n := range []int{0, 1, -1} {
			for place := range 3 {
				in := good()
				in.col, in.row, in.number = place, place, sample.Frac(n, 1)
				checkMemory(t, c, guard.Model(sample.Three()), guarded(in))
			}
		}
	}
}

// TestOneList: one list in several places of the model, and of what is handed in beside it.
func TestOneList(t *testing.T) {
	for _, c := range callers() {
		r := guard.Rat(sample.Frac(2, 3))
		x, terms := api.Ext{V: r}, guard.Terms([]api.Term{{Col: 0, A: r}, {Col: 1, A: r}})
		col, row := api.Col{Name: "x", Cost: r, Lo: x, Hi: x}, api.Row{Name: "r", Lo: x, Hi: x, Terms: terms}
		m := api.Model{Offset: r, Cols: []api.Col{col, col}, Rows: []api.Row{row, row}}
		m.Cols[1].Name, m.Rows[1].Name = "y", "s"
		in := input{col: 1, row: 1, number: r, lo: x, hi: x, newCol: col, newRow: row}
		in.newCol.Name, in.newRow.Name = "z", "t"
		checkMemory(t, c, m, in)
	}
}

func checkMemory(t *testing.T, c caller, m api.Model, in input) {
	t.Helper()
	handed := func(b *guard.Book) {
		b.Model(m)
		b.Rat(in.number)
		b.Ext(in.lo)
		b.Ext(in.hi)
		b.Col(in.newCol)
		b.Row(in.newRow)
	}
	fault := guard.Fault(handed, func(b *guard.Book) {
		out, _ := c.call(m, in)
		b.Model(out)
	})
	if fault != "" {
		t.Errorf("%s of %v, %v: %s", c.name, m, in, fault)
	}
}
