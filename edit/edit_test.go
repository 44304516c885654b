package edit_test

import (
	"math/big"
	"slices"
	"testing"

	"tableau/api"
	"tableau/edit"
	"tableau/sample"
)

// checkModel: is it the model that the plain one stands for?
func checkModel(t *testing.T, name string, m api.Model, e api.Errno, want plain) {
	t.Helper()
	if e != api.OK || !sameModel(m, fromPlain(want)) {
		t.Errorf("%s = %v, %d, want %v", name, m, e, fromPlain(want))
	}
}

// bounds: pairs that a column or a row may have: infinite on either side, equal, crossed.
func bounds() [][2]api.Ext {
	long := api.Ext{V: api.Rat{Num: []uint64{1, 0, 1}, Den: []uint64{3}}}
	return [][2]api.Ext{{sample.Low(), sample.High()}, {sample.At(-2), sample.High()}, {sample.Low(), sample.AtFrac(2, 3)}, {sample.At(0), sample.At(0)}, {sample.At(1), sample.At(0)}, {sample.At(-1), long}}
}

func TestAddCol(t *testing.T) {
	for _, m := range sample.Models() {
		if len(m.Cols) == api.MaxCols {
			continue
		}
		for _, b := range bounds() {
			for _, cost := range sample.Rats() {
				c := api.Col{Name: "a_new_column_of1", Cost: cost, Lo: b[0], Hi: b[1]}
				want := toPlain(m)
				want.cols = append(want.cols, toPlainCol(c))
				for i := range want.rows {
					want.rows[i].a = append(want.rows[i].a, new(big.Rat))
				}
				got, e := edit.AddCol(m, c)
				checkModel(t, "P8.1: AddCol", got, e, want)
			}
		}
	}
}

func TestAddRow(t *testing.T) {
	for _, m := range sample.Models() {
		if len(m.Rows) == api.MaxRows {
			continue
		}
		for _, b := range bounds() {
			for _, a := range sample.Rats() {
				r := api.Row{Name: "a_new_row_of_16b", Lo: b[0], Hi: b[1]}
				for _, col := range places(len(m.Cols)) {
					if len(a.Num) > 0 {
						r.Terms = append(r.Terms, api.Term{Col: col, A: a})
					}
				}
				want := toPlain(m)
				want.rows = append(want.rows, toPlainRow(r, len(m.Cols)))
				got, e := edit.AddRow(m, r)
				checkModel(t, "P8.1: AddRow", got, e, want)
			}
		}
	}
}

// TestAddUpTo: as many as there may be, from none.
func TestAddUpTo(t *testing.T) {
	want := sample.Full()
	m := api.Model{Offset: sample.Frac(0, 1)}
	e := api.OK
	for _, c := range want.Cols {
		if m, e = edit.AddCol(m, c); e != api.OK {
			t.Fatalf("P8.1: AddCol: %d", e)
		}
	}
	for _, r := range want.Rows {
		if m, e = edit.AddRow(m, r); e != api.OK {
			t.Fatalf("P8.1: AddRow: %d", e)
		}
	}
	if !sameModel(m, want) {
		t.Errorf("P8.1: columns and rows that were added one by one: %v, want %v", m, want)
	}
}

func withoutCol(p plain, col int) plain {
	p.cols = slices.Delete(slices.Clone(p.cols), col, col+1)
	for i := range p.rows {
		p.rows[i].a = slices.Delete(p.rows[i].a, col, col+1)
	}
	return p
}

func TestDrop(t *testing.T) {
	for _, m := range sample.Models() {
		for _, col := range places(len(m.Cols)) {
			got, e := edit.DropCol(m, col)
			checkModel(t, "P8.1: DropCol", got, e, withoutCol(toPlain(m), col))
		}
		for _, row := range places(len(m.Rows)) {
			want := toPlain(m)
			want.rows = slices.Delete(want.rows, row, row+1)
			got, e := edit.DropRow(m, row)
			checkModel(t, "P8.1: DropRow", got, e, want)
		}
	}
}

func TestSetCost(t *testing.T) {
	for _, m := range sample.Models() {
		for _, col := range places(len(m.Cols)) {
			for _, cost := range append(sample.Rats(), m.Cols[col].Cost) {
				want := toPlain(m)
				want.cols[col].cost = toBig(cost)
				got, e := edit.SetCost(m, col, cost)
				checkModel(t, "P8.2: SetCost", got, e, want)
			}
		}
	}
}

func TestSetBounds(t *testing.T) {
	for _, m := range sample.Models() {
		for _, b := range bounds() {
			for _, col := range places(len(m.Cols)) {
				want := toPlain(m)
				want.cols[col].lo, want.cols[col].hi = toBound(b[0]), toBound(b[1])
				got, e := edit.SetCol(m, col, b[0], b[1])
				checkModel(t, "P8.2: SetCol", got, e, want)
			}
			for _, row := range places(len(m.Rows)) {
				want := toPlain(m)
				want.rows[row].lo, want.rows[row].hi = toBound(b[0]), toBound(b[1])
				got, e := edit.SetRow(m, row, b[0], b[1])
				checkModel(t, "P8.2: SetRow", got, e, want)
			}
		}
	}
}

// TestSetTerm: set to 0, where there was a term and where there was none; set anew; set to what it was.
func TestSetTerm(t *testing.T) {
	for _, m := range sample.Models() {
		p := toPlain(m)
		for _, row := range places(len(m.Rows)) {
			for _, col := range places(len(m.Cols)) {
				for _, a := range append(sample.Rats(), fromBig(p.rows[row].a[col])) {
					want := toPlain(m)
					want.rows[row].a[col] = toBig(a)
					got, e := edit.SetTerm(m, row, col, a)
					checkModel(t, "P8.2: SetTerm", got, e, want)
				}
			}
		}
	}
}

func TestScaleRow(t *testing.T) {
	for _, m := range sample.Models() {
		for _, row := range places(len(m.Rows)) {
			for _, r := range sample.Rats()[1:] {
				n := toBig(r)
				timesN := func(x *big.Rat) *big.Rat { return times(n, x) }
				want := toPlain(m)
				w := &want.rows[row]
				w.lo, w.hi = onBound(w.lo, timesN), onBound(w.hi, timesN)
				if n.Sign() < 0 {
					w.lo, w.hi = w.hi, w.lo
				}
				for col := range w.a {
					w.a[col] = timesN(w.a[col])
				}
				got, e := edit.ScaleRow(m, row, r)
				checkModel(t, "P8.3: ScaleRow", got, e, want)
			}
		}
	}
}

func TestMirror(t *testing.T) {
	for _, m := range sample.Models() {
		for _, col := range places(len(m.Cols)) {
			want := toPlain(m)
			c := &want.cols[col]
			c.cost = minus(c.cost)
			c.lo, c.hi = onBound(c.hi, minus), onBound(c.lo, minus)
			for _, r := range want.rows {
				r.a[col] = minus(r.a[col])
			}
			got, e := edit.Mirror(m, col)
			checkModel(t, "P8.4: Mirror", got, e, want)
			back, e := edit.Mirror(got, col)
			checkModel(t, "P8.4: Mirror twice", back, e, toPlain(m))
		}
	}
}

// TestSubstitute: also by numbers that do not keep the column's bounds.
func TestSubstitute(t *testing.T) {
	for _, m := range sample.Models() {
		for _, col := range places(len(m.Cols)) {
			for _, v := range sample.Rats() {
				n := toBig(v)
				want := toPlain(m)
				want.offset = plus(want.offset, times(want.cols[col].cost, n))
				for i := range want.rows {
					r := &want.rows[i]
					shift := func(x *big.Rat) *big.Rat { return plus(x, minus(times(r.a[col], n))) }
					r.lo, r.hi = onBound(r.lo, shift), onBound(r.hi, shift)
				}
				got, e := edit.Substitute(m, col, v)
				checkModel(t, "P8.5: Substitute", got, e, withoutCol(want, col))
			}
		}
	}
}

// TestExamples: those of the chapter.
func TestExamples(t *testing.T) {
	free := func(name string) api.Col { return sample.Col(name, 0, sample.Low(), sample.High()) }
	three := api.Model{Offset: sample.Frac(0, 1), Cols: []api.Col{free("x"), free("y"), free("z")}, Rows: []api.Row{sample.Row("r", sample.At(0), sample.High(), sample.Term(0, 1), sample.Term(2, 3))}}
	m, e := edit.DropCol(three, 0)
	if want := sample.Row("r", sample.At(0), sample.High(), sample.Term(1, 3)); e != api.OK || !sameRow(m.Rows[0], want) {
		t.Errorf("P8.1: DropCol = %v, %d", m, e)
	}
	one := api.Model{Offset: sample.Frac(0, 1), Cols: []api.Col{sample.Col("x", 3, sample.At(0), sample.High())}, Rows: []api.Row{sample.Row("r", sample.At(1), sample.At(5), sample.Term(0, 1))}}
	if m, e = edit.SetTerm(one, 0, 0, sample.Frac(0, 1)); e != api.OK || len(m.Rows[0].Terms) != 0 {
		t.Errorf("P8.2: SetTerm = %v, %d", m, e)
	}
	m, e = edit.ScaleRow(one, 0, sample.Frac(-2, 1))
	if want := sample.Row("r", sample.At(-10), sample.At(-2), sample.Term(0, -2)); e != api.OK || !sameRow(m.Rows[0], want) {
		t.Errorf("P8.3: ScaleRow = %v, %d", m, e)
	}
	m, e = edit.Mirror(one, 0)
	if want := sample.Col("x", -3, sample.Low(), sample.At(0)); e != api.OK || !sameCol(m.Cols[0], want) {
		t.Errorf("P8.4: Mirror = %v, %d", m, e)
	}
	one.Cols = append(one.Cols, free("y"))
	one.Rows[0].Terms = append(one.Rows[0].Terms, sample.Term(1, 1))
	m, e = edit.Substitute(one, 0, sample.Frac(2, 1))
	want := api.Model{Offset: sample.Frac(6, 1), Cols: []api.Col{free("y")}, Rows: []api.Row{sample.Row("r", sample.At(-1), sample.At(3), sample.Term(0, 1))}}
	if e != api.OK || !sameModel(m, want) {
		t.Errorf("P8.5: Substitute = %v, %d", m, e)
	}
}
