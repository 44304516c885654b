package model_test

import (
	"slices"
	"testing"

	"tableau/api"
	"tableau/model"
	"tableau/sample"
)

func TestCheck(t *testing.T) {
	for i, m := range sample.Models() {
		if e := model.Check(m); e != api.OK {
			t.Errorf("P7.1: Check of model %d: %d", i, e)
		}
	}
	for _, b := range sample.Brokens() {
		if e := model.Check(b.M); e != b.E {
			t.Errorf("P7.1: Check, %s: %d, want %d: %v", b.Name, e, b.E, b.M)
		}
	}
}

// TestNames: 1 to 16 bytes of a to z, 0 to 9 and _, the first one of a to z: each byte is tried at the first and at a later place.
func TestNames(t *testing.T) {
	check := func(name string, want api.Errno) {
		t.Helper()
		col := api.Model{Offset: sample.Frac(0, 1), Cols: []api.Col{sample.Col(name, 1, sample.At(0), sample.High())}}
		row := api.Model{Offset: sample.Frac(0, 1), Rows: []api.Row{sample.Row(name, sample.At(0), sample.High())}}
		if e, f := model.Check(col), model.Check(row); e != want || f != want {
			t.Errorf("P7.1: the name %q: as a column's %d, as a row's %d, want %d", name, e, f, want)
		}
		if is := model.IsName(name); is != (want == api.OK) {
			t.Errorf("IsName(%q) = %v", name, is)
		}
	}
	for b := range 256 {
		letter := b >= 'a' && b <= 'z'
		first, later := api.ErrName, api.ErrName
		if letter {
			first = api.OK
		}
		if letter || b >= '0' && b <= '9' || b == '_' {
			later = api.OK
		}
		check(string([]byte{byte(b)}), first)
		check(string([]byte{byte(b), 'a'}), first)
		check(string([]byte{'a', byte(b)}), later)
		check(string([]byte{'q', byte(b), '7'}), later)
		check("abcdefghijklmno"+string([]byte{byte(b)}), later)
	}
	check("", api.ErrName)
	check("a23456789012345", api.OK)
	check("a234567890123456", api.OK)
	check("a2345678901234567", api.ErrName)
}

// TestExamples: those of the chapter.
func TestExamples(t *testing.T) {
	if e := model.Check(api.Model{}); e != api.ErrForm {
		t.Errorf("P7.1: Check of nothing: %d", e)
	}
	none := api.Model{Offset: sample.Frac(0, 1)}
	if e := model.Check(none); e != api.OK {
		t.Errorf("P7.1: Check of no columns and no rows: %d", e)
	}
	crossed := none
	crossed.Cols = []api.Col{sample.Col("x", 0, sample.At(2), sample.At(1))}
	cols, rows, e := model.Crossed(crossed)
	if f := model.Check(crossed); f != api.OK || e != api.OK || !slices.Equal(cols, []int{0}) || len(rows) != 0 {
		t.Errorf("P7.4: a crossed column: Check %d, Crossed %v, %v, %d", f, cols, rows, e)
	}
	two := none
	two.Cols = []api.Col{sample.Col("x", 0, sample.Low(), sample.High()), sample.Col("y", 0, sample.Low(), sample.High())}
	two.Rows = []api.Row{sample.Row("r", sample.At(0), sample.High(), sample.Term(0, 1), sample.Term(1, 2)), sample.Row("s", sample.At(0), sample.High(), sample.Term(1, 3))}
	l, e := model.Columns(two)
	want := [][]api.Term{{sample.Term(0, 1)}, {sample.Term(0, 2), sample.Term(1, 3)}}
	if e != api.OK || !slices.EqualFunc(l, want, sameTerms) {
		t.Errorf("P7.2: Columns = %v, %d", l, e)
	}
}

// TestColumns: each term of a row stands in its column, and nothing else does.
func TestColumns(t *testing.T) {
	for i, m := range sample.Models() {
		want := make([][]api.Term, len(m.Cols))
		for col := range m.Cols {
			for row, r := range m.Rows {
				for _, term := range r.Terms {
					if term.Col == col {
						want[col] = append(want[col], api.Term{Col: row, A: term.A})
					}
				}
			}
		}
		l, e := model.Columns(m)
		if e != api.OK || !slices.EqualFunc(l, want, sameTerms) {
			t.Errorf("P7.2: Columns of model %d = %v, %d, want %v", i, l, e, want)
		}
	}
}

func TestCopy(t *testing.T) {
	for i, m := range sample.Models() {
		c, e := model.Copy(m)
		if e != api.OK || !sameModel(c, m) {
			t.Errorf("P7.1: Copy of model %d = %v, %d", i, c, e)
		}
	}
}

func TestEqual(t *testing.T) {
	all, again := sample.Models(), sample.Models()
	for i, a := range all {
		for k, b := range again {
			if same, e := model.Equal(a, b); same != (i == k) || e != api.OK {
				t.Errorf("P7.3: Equal of models %d and %d = %v, %d", i, k, same, e)
			}
		}
	}
}

// TestEqualFields: one field that is another one is told; nil and empty lists are not.
func TestEqualFields(t *testing.T) {
	check := func(name string, want bool, turn func(m *api.Model)) {
		t.Helper()
		m := sample.Three()
		turn(&m)
		same, e := model.Equal(sample.Three(), m)
		back, f := model.Equal(m, sample.Three())
		if same != want || back != want || e != api.OK || f != api.OK {
			t.Errorf("P7.3: Equal, %s: %v, %v, %d, %d", name, same, back, e, f)
		}
	}
	check("the same", true, func(m *api.Model) {})
	check("no list of terms", true, func(m *api.Model) { m.Rows[1].Terms = []api.Term{} })
	check("an empty list of limbs", true, func(m *api.Model) { m.Cols[1].Cost.Num = []uint64{} })
	check("offset", false, func(m *api.Model) { m.Offset = sample.Frac(2, 1) })
	check("offset's sign", false, func(m *api.Model) { m.Offset = sample.Frac(-1, 1) })
	check("offset's denominator", false, func(m *api.Model) { m.Offset = sample.Frac(1, 2) })
	check("a column's name", false, func(m *api.Model) { m.Cols[1].Name = "w" })
	check("a cost", false, func(m *api.Model) { m.Cols[2].Cost = sample.Frac(1, 2) })
	check("a column's Lo", false, func(m *api.Model) { m.Cols[0].Lo = sample.At(1) })
	check("a column's Lo infinite", false, func(m *api.Model) { m.Cols[0].Lo = sample.Low() })
	check("a column's Hi", false, func(m *api.Model) { m.Cols[2].Hi = sample.AtFrac(5, 2) })
	check("a column's Hi infinite", false, func(m *api.Model) { m.Cols[2].Hi = sample.High() })
	check("a column less", false, func(m *api.Model) { m.Rows, m.Cols = nil, m.Cols[:2] })
	check("a column more", false, func(m *api.Model) { m.Cols = append(m.Cols, sample.Col("w", 0, sample.Low(), sample.High())) })
	check("columns' order", false, func(m *api.Model) { m.Cols[0], m.Cols[1] = m.Cols[1], m.Cols[0] })
	check("a row's name", false, func(m *api.Model) { m.Rows[1].Name = "w" })
	check("a row's Lo", false, func(m *api.Model) { m.Rows[0].Lo = sample.At(0) })
	check("a row's Lo infinite", false, func(m *api.Model) { m.Rows[0].Lo = sample.Low() })
	check("a row's Hi", false, func(m *api.Model) { m.Rows[2].Hi = sample.At(-9) })
	check("a row's Hi infinite", false, func(m *api.Model) { m.Rows[2].Hi = sample.High() })
	check("a row less", false, func(m *api.Model) { m.Rows = m.Rows[:2] })
	check("a row more", false, func(m *api.Model) { m.Rows = append(m.Rows, sample.Row("w", sample.Low(), sample.High())) })
	check("rows' order", false, func(m *api.Model) { m.Rows[0], m.Rows[2] = m.Rows[2], m.Rows[0] })
	check("a term's column", false, func(m *api.Model) { m.Rows[2].Terms[0].Col = 1 })
	check("a term's number", false, func(m *api.Model) { m.Rows[0].Terms[1].A = sample.Frac(-2, 1) })
	check("a term less", false, func(m *api.Model) { m.Rows[0].Terms = m.Rows[0].Terms[:1] })
	check("a term more", false, func(m *api.Model) { m.Rows[1].Terms = []api.Term{sample.Term(0, 1)} })
}

func TestPlaces(t *testing.T) {
	for i, m := range sample.Models() {
		for place, c := range m.Cols {
			if p, e := model.Col(m, c.Name); p != place || e != api.OK {
				t.Errorf("P7.3: Col of model %d, %s = %d, %d", i, c.Name, p, e)
			}
		}
		for place, r := range m.Rows {
			if p, e := model.Row(m, r.Name); p != place || e != api.OK {
				t.Errorf("P7.3: Row of model %d, %s = %d, %d", i, r.Name, p, e)
			}
		}
		for _, name := range append(sample.BadNames(), "nobody", "x_", "xx", "r") {
			checkNone(t, m, name)
		}
	}
	m := sample.Three()
	if p, e := model.Col(m, "u"); p != 0 || e != api.ErrNone {
		t.Errorf("P7.3: Col of a row's name = %d, %d", p, e)
	}
	if p, e := model.Row(m, "x"); p != 0 || e != api.ErrNone {
		t.Errorf("P7.3: Row of a column's name = %d, %d", p, e)
	}
}

// checkNone: a name that stands for nothing, or is none.
func checkNone(t *testing.T, m api.Model, name string) {
	t.Helper()
	if !slices.ContainsFunc(m.Cols, func(c api.Col) bool { return c.Name == name }) {
		if p, e := model.Col(m, name); p != 0 || e != api.ErrNone {
			t.Errorf("P7.3: Col(%q) = %d, %d", name, p, e)
		}
	}
	if !slices.ContainsFunc(m.Rows, func(r api.Row) bool { return r.Name == name }) {
		if p, e := model.Row(m, name); p != 0 || e != api.ErrNone {
			t.Errorf("P7.3: Row(%q) = %d, %d", name, p, e)
		}
	}
}

func TestCrossed(t *testing.T) {
	type pair struct {
		lo, hi  api.Ext
		crossed bool
	}
	long := api.Rat{Num: []uint64{1, 0, 1}, Den: []uint64{3}}
	pairs := []pair{
		{sample.At(1), sample.At(0), true}, {sample.At(0), sample.At(1), false}, {sample.At(1), sample.At(1), false},
		{sample.Low(), sample.High(), false}, {sample.At(5), sample.High(), false}, {sample.Low(), sample.At(-5), false},
		{sample.AtFrac(1, 2), sample.AtFrac(1, 3), true}, {sample.AtFrac(-1, 2), sample.AtFrac(-1, 3), false},
		{api.Ext{V: long}, sample.At(7), true}, {sample.At(7), api.Ext{V: long}, false}, {sample.At(0), sample.At(-1), true},
	}
	m := api.Model{Offset: sample.Frac(0, 1)}
	var cols, rows []int
	for i := range pairs {
		name := "n" + string(rune('a'+i))
		c, r := pairs[i], pairs[len(pairs)-1-i]
		m.Cols = append(m.Cols, sample.Col(name, 1, c.lo, c.hi))
		m.Rows = append(m.Rows, sample.Row(name, r.lo, r.hi))
		if c.crossed {
			cols = append(cols, i)
		}
		if r.crossed {
			rows = append(rows, i)
		}
	}
	c, r, e := model.Crossed(m)
	if e != api.OK || !slices.Equal(c, cols) || !slices.Equal(r, rows) {
		t.Errorf("P7.4: Crossed = %v, %v, %d, want %v, %v", c, r, e, cols, rows)
	}
	c, r, e = model.Crossed(api.Model{Offset: sample.Frac(0, 1)})
	if e != api.OK || len(c) != 0 || len(r) != 0 {
		t.Errorf("P7.4: Crossed of no columns and no rows = %v, %v, %d", c, r, e)
	}
}
