package edit_test

import (
	"math"
	"testing"

	"tableau/api"
	"tableau/edit"
	"tableau/sample"
)

func checkError(t *testing.T, name string, m api.Model, e, want api.Errno) {
	t.Helper()
	if !none(m) || e != want {
		t.Errorf("P8: %s: %v, %d, want %d", name, m, e, want)
	}
}

// beyonds: places below 0 and beyond the last of n.
func beyonds(n int) []int { return []int{-1, -2, math.MinInt, n, n + 1, math.MaxInt} }

// misplaced: the input with each wrong place that the call takes.
func misplaced(c caller, m api.Model, in input) []input {
	var out []input
	for _, place := range beyonds(len(m.Cols)) {
		if wrong := in; c.cols {
			wrong.col = place
			out = append(out, wrong)
		}
	}
	for _, place := range beyonds(len(m.Rows)) {
		if wrong := in; c.rows {
			wrong.row = place
			out = append(out, wrong)
		}
	}
	return out
}

func TestGood(t *testing.T) {
	for _, c := range callers() {
		if m, e := c.call(sample.Three(), good()); e != api.OK || none(m) {
			t.Errorf("%s: %v, %d", c.name, m, e)
		}
	}
}

// TestPlaces: of a model that is well formed a wrong place is the least error, whatever else is wrong.
func TestPlaces(t *testing.T) {
	for _, c := range callers() {
		for _, m := range sample.Models() {
			for _, in := range misplaced(c, m, good()) {
				got, e := c.call(m, in)
				checkError(t, c.name, got, e, api.ErrArg)
			}
		}
		m := sample.Three()
		for _, bad := range append(c.bads, input{col: 2}) {
			for _, in := range misplaced(c, m, bad) {
				got, e := c.call(m, in)
				checkError(t, c.name+" with a wrong place and what is not in form", got, e, api.ErrArg)
			}
		}
	}
}

// TestOnePlace: SetTerm with just one of its two places wrong.
func TestOnePlace(t *testing.T) {
	m := sample.Three()
	for _, place := range beyonds(3) {
		for right := range 3 {
			got, e := edit.SetTerm(m, place, right, sample.Frac(1, 1))
			checkError(t, "SetTerm with a wrong row", got, e, api.ErrArg)
			got, e = edit.SetTerm(m, right, place, sample.Frac(1, 1))
			checkError(t, "SetTerm with a wrong column", got, e, api.ErrArg)
		}
	}
}

// TestBadForm: what is handed in beside the model is not in form.
func TestBadForm(t *testing.T) {
	for _, c := range callers() {
		for _, in := range c.bads {
			got, e := c.call(sample.Three(), in)
			checkError(t, c.name, got, e, api.ErrForm)
		}
	}
}

// TestBroken: of Check's error of the model and of what is not in form the least; places are not asked for then.
func TestBroken(t *testing.T) {
	for _, c := range callers() {
		for _, b := range sample.Brokens() {
			for _, in := range append(misplaced(c, b.M, good()), good()) {
				got, e := c.call(b.M, in)
				checkError(t, c.name+", "+b.Name, got, e, b.E)
			}
			for i, in := range c.bads {
				if i%5 == 0 {
					got, e := c.call(b.M, in)
					checkError(t, c.name+" of what is not in form, "+b.Name, got, e, min(b.E, api.ErrForm))
				}
			}
		}
	}
}

func TestScaleRowZero(t *testing.T) {
	zero := sample.Frac(0, 1)
	got, e := edit.ScaleRow(sample.Three(), 0, zero)
	checkError(t, "ScaleRow by 0", got, e, api.ErrZero)
	got, e = edit.ScaleRow(sample.Three(), 1, zero)
	checkError(t, "ScaleRow by 0 of a row without terms", got, e, api.ErrZero)
	for _, place := range beyonds(3) {
		got, e = edit.ScaleRow(sample.Three(), place, zero)
		checkError(t, "ScaleRow by 0 of no row", got, e, api.ErrArg)
	}
	for _, b := range sample.Brokens() {
		got, e = edit.ScaleRow(b.M, 0, zero)
		checkError(t, "ScaleRow by 0, "+b.Name, got, e, min(b.E, api.ErrZero))
	}
}

// TestAnswerBounds: bounds that are in form, but on the wrong side: the model that would be answered is not well formed.
func TestAnswerBounds(t *testing.T) {
	for _, b := range [][2]api.Ext{{sample.High(), sample.High()}, {sample.Low(), sample.Low()}, {sample.High(), sample.Low()}, {sample.High(), sample.At(1)}, {sample.At(1), sample.Low()}} {
		for place := range 3 {
			got, e := edit.SetCol(sample.Three(), place, b[0], b[1])
			checkError(t, "SetCol", got, e, api.ErrForm)
			got, e = edit.SetRow(sample.Three(), place, b[0], b[1])
			checkError(t, "SetRow", got, e, api.ErrForm)
		}
		got, e := edit.SetCol(sample.Three(), 3, b[0], b[1])
		checkError(t, "SetCol of no column", got, e, api.ErrArg)
		got, e = edit.SetRow(sample.Three(), -1, b[0], b[1])
		checkError(t, "SetRow of no row", got, e, api.ErrArg)
		got, e = edit.AddCol(sample.Three(), sample.Col("W", 1, b[0], b[1]))
		checkError(t, "AddCol of no name", got, e, api.ErrForm)
		got, e = edit.AddRow(sample.Three(), sample.Row("y", b[0], b[1], sample.Term(9, 1)))
		checkError(t, "AddRow of a name that is there", got, e, api.ErrForm)
		got, e = edit.AddCol(sample.Full(), sample.Col("w", 1, b[0], b[1]))
		checkError(t, "AddCol of a 65th", got, e, api.ErrLong)
		got, e = edit.AddRow(sample.Full(), sample.Row("w", b[0], b[1]))
		checkError(t, "AddRow of a 65th", got, e, api.ErrLong)
	}
}

// TestAnswerNames: names that are none, or that are there; a term beyond the columns.
func TestAnswerNames(t *testing.T) {
	lo, hi := sample.At(0), sample.High()
	beyond := sample.Term(3, 1)
	for _, name := range sample.BadNames() {
		got, e := edit.AddCol(sample.Three(), sample.Col(name, 1, lo, hi))
		checkError(t, "AddCol", got, e, api.ErrName)
		got, e = edit.AddRow(sample.Three(), sample.Row(name, lo, hi, beyond))
		checkError(t, "AddRow", got, e, api.ErrName)
		got, e = edit.AddCol(sample.Full(), sample.Col(name, 1, lo, hi))
		checkError(t, "AddCol of a 65th", got, e, api.ErrLong)
	}
	for _, c := range sample.Three().Cols {
		got, e := edit.AddCol(sample.Three(), sample.Col(c.Name, 1, lo, hi))
		checkError(t, "AddCol", got, e, api.ErrExists)
	}
	for _, r := range sample.Three().Rows {
		got, e := edit.AddRow(sample.Three(), sample.Row(r.Name, lo, hi, beyond))
		checkError(t, "AddRow", got, e, api.ErrExists)
	}
	if m, e := edit.AddCol(sample.Three(), sample.Col("u", 1, lo, hi)); e != api.OK || len(m.Cols) != 4 {
		t.Errorf("P8.1: AddCol with a row's name = %v, %d", m, e)
	}
	if m, e := edit.AddRow(sample.Three(), sample.Row("x", lo, hi)); e != api.OK || len(m.Rows) != 4 {
		t.Errorf("P8.1: AddRow with a column's name = %v, %d", m, e)
	}
	for _, col := range []int{3, 4, math.MaxInt} {
		got, e := edit.AddRow(sample.Three(), sample.Row("w", lo, hi, sample.Term(0, 1), sample.Term(col, 1)))
		checkError(t, "AddRow beyond", got, e, api.ErrUnlike)
	}
}

// TestAnswerLast: what is wrong with the model that would be answered counts only where nothing that is handed in is wrong by itself.
func TestAnswerLast(t *testing.T) {
	lo, hi := sample.At(0), sample.High()
	got, e := edit.AddCol(sample.Full(), api.Col{Name: "w", Lo: lo, Hi: hi})
	checkError(t, "AddCol of a 65th with a cost that is not in form", got, e, api.ErrForm)
	got, e = edit.AddRow(sample.Full(), sample.Row("w", lo, api.Ext{}))
	checkError(t, "AddRow of a 65th with a bound that is not in form", got, e, api.ErrForm)
	unnamed := sample.Full()
	unnamed.Cols[5].Name = "X"
	got, e = edit.AddCol(unnamed, sample.Col("w", 1, lo, hi))
	checkError(t, "AddCol of a 65th to a model with no name", got, e, api.ErrName)
	got, e = edit.SetCol(unnamed, 0, sample.High(), hi)
	checkError(t, "SetCol on the wrong side in a model with no name", got, e, api.ErrName)
	beyond := sample.Three()
	beyond.Rows[1].Terms = []api.Term{sample.Term(3, 1)}
	got, e = edit.AddCol(beyond, sample.Col("w", 1, lo, hi))
	checkError(t, "AddCol of the column that a term is of already", got, e, api.ErrUnlike)
	got, e = edit.DropRow(beyond, 1)
	checkError(t, "DropRow of the row that is wrong", got, e, api.ErrUnlike)
}
