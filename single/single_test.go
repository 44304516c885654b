package single_test

import (
	"slices"
	"strconv"
	"testing"

	"tableau/api"
	"tableau/fixed"
	"tableau/model"
	"tableau/sample"
	"tableau/single"
	"tableau/trial"
)

// checkSweep: the model that is left and the outcome are the ones that the chapter says; columns stay.
func checkSweep(t *testing.T, m api.Model) {
	t.Helper()
	s := fresh(m)
	r, o, e := single.Sweep(m, s)
	want, place := swept(m)
	if same, f := model.Equal(r, want); e != api.OK || f != api.OK || !same {
		t.Fatalf("P18.1: of %v: %v, %d, want %v", m, r, e, want)
	}
	kind, c := api.Went, api.Cert{}
	if place >= 0 {
		kind, c = api.Empty, shown(want, place)
	}
	if o.Kind != kind || len(o.D) > 0 || !sameCert(o.Cert, c) {
		t.Fatalf("P18.1: of %v: the outcome %v, want %d, %v", m, o, kind, c)
	}
	x := slices.Concat(nums(7, -2, 0), filled(61, sample.Frac(-3, 5)))[:len(m.Cols)]
	y, e := s.Primal(x)
	z, f := s.Lift(x)
	if e != api.OK || f != api.OK || !slices.EqualFunc(x, y, sameRat) || !slices.EqualFunc(x, z, sameRat) {
		t.Fatalf("P18.2: of %v: Primal and Lift of %v: %v, %d and %v, %d", m, x, y, e, z, f)
	}
	if a, b, n, k := s.Size(); a != len(m.Cols) || b != len(m.Rows) || n != len(r.Cols) || k != len(r.Rows) {
		t.Fatalf("P17.1: of %v: Size = %d, %d, %d, %d", m, a, b, n, k)
	}
}

func sameCert(a, b api.Cert) bool {
	return slices.EqualFunc(a.RowLo, b.RowLo, sameRat) && slices.EqualFunc(a.RowHi, b.RowHi, sameRat) &&
		slices.EqualFunc(a.ColLo, b.ColLo, sameRat) && slices.EqualFunc(a.ColHi, b.ColHi, sameRat)
}

// checkBoth: the way there, and the way back from all that is known of what is left.
func checkBoth(t *testing.T, m api.Model) (trial.Known, api.Outcome) {
	t.Helper()
	checkSweep(t, m)
	k, o, fault := trial.Way(m, single.Sweep)
	if fault != "" {
		t.Fatalf("P18.2: of %v: %s", m, fault)
	}
	return k, o
}

func filled[T any](n int, r T) []T {
	x := make([]T, n)
	for i := range x {
		x[i] = r
	}
	return x
}

// TestExamples: those of the chapter, of DOC.md's 6 and 8, and rows of each kind beside one another.
func TestExamples(t *testing.T) {
	for _, c := range []struct{ from, to string }{
		{"min 0 / col x 1 -inf inf / row r 2 2 3 x", "min 0 / col x 1 2/3 2/3"},
		{"min 0 / col x 1 -inf inf / row r -inf 6 -2 x", "min 0 / col x 1 -3 inf"},
		{"min 0 / col x 1 -inf inf / row r 6 inf -2 x", "min 0 / col x 1 -inf -3"},
		{"min 0 / col x 1 -inf inf / row r -4 6 -2 x", "min 0 / col x 1 -3 2"},
		{"min 0 / col x 1 -inf inf / row r -inf inf -2 x", "min 0 / col x 1 -inf inf"},
		{"min 0 / col x 1 0 5 / row r 6 7 1 x", "min 0 / col x 1 6 5"},
		{"min 0 / col x 1 0 5 / row r 2 1 1 x", "min 0 / col x 1 2 1"},
		{"min 0 / col x 1 0 5 / row r -1 7 1 x", "min 0 / col x 1 0 5"},
		{"min 0 / col x 1 0 5 / row r 0 5 1 x", "min 0 / col x 1 0 5"},
		{"min 0 / col x 1 0 5 / row r 1 9 1 x / row q 0 3 1 x / row p -4 -1/2 -1 x", "min 0 / col x 1 1 3"},
		{"min 0 / row r 0 0 / row q -inf 0 / row p 0 inf / row o -inf inf / row n -1 1", "min 0"},
		{"min 1 / col x 1 0 5 / col y 2 0 9 / row r -1 1 / row q 0 3 2 y / row p 1 2 1 x 1 y / row o 0 0 / row n 8 inf 4 x", "min 1 / col x 1 2 5 / col y 2 0 3/2 / row p 1 2 1 x 1 y"},
	} {
		m := read(t, c.from)
		r, o, e := single.Sweep(m, fresh(m))
		if same, f := model.Equal(r, read(t, c.to)); e != api.OK || f != api.OK || !same || o.Kind != api.Went {
			t.Errorf("P18.1: of %s: %v, %d, %d", c.from, r, o.Kind, e)
		}
		checkBoth(t, m)
	}
}

// TestEmpty: a row without terms that 0 doesn't keep ends the sweep, wherever it stands; rows ahead of it have gone, those behind it stay.
func TestEmpty(t *testing.T) {
	for _, c := range []struct {
		row   string
		lower bool
	}{
		{"1 2", true}, {"1/9 inf", true}, {"1 1", true}, {"1 0", true}, {"3 -4", true},
		{"-2 -1", false}, {"-inf -1/9", false}, {"-1 -1", false}, {"0 -1", false}, {"-1 -2", false},
	} {
		for _, f := range []struct {
			ahead, behind, left string
			place               int
		}{
			{"", "", "", 0},
			{" / row r 0 2 2 x", "", "", 0},
			{" / row r 0 2 2 x / row q 1 3 1 x 2 y / row p 0 0", " / row o 5 6 3 y", " / row q 1 3 1 x 2 y", 1},
			{"", " / row r 7 8 / row q 1 3 1 x 2 y", "", 0},
		} {
			name := "min 0 / col x 1 0 1 / col y 1 0 1" + f.ahead + " / row e " + c.row + f.behind
			m := read(t, name)
			r, o, e := single.Sweep(m, fresh(m))
			want := read(t, "min 0 / col x 1 0 1 / col y 1 0 1"+f.left+" / row e "+c.row+f.behind)
			if same, _ := model.Equal(r, want); e != api.OK || o.Kind != api.Empty || !same {
				t.Fatalf("P18.1: of %s: %v, %d, %d", name, r, o.Kind, e)
			}
			by := api.Cert{RowLo: noughts(len(r.Rows)), RowHi: noughts(len(r.Rows)), ColLo: nums(0, 0), ColHi: nums(0, 0)}
			if c.lower {
				by.RowLo[f.place] = nums(1)[0]
			} else {
				by.RowHi[f.place] = nums(1)[0]
			}
			if !sameCert(o.Cert, by) {
				t.Errorf("P18.1: of %s: %v, want %v", name, o.Cert, by)
			}
			checkBoth(t, m)
		}
	}
}

// bounds: pairs of each kind, many of them alike on one side or on both.
func bounds() [][2]api.Ext {
	var out [][2]api.Ext
	for _, lo := range []api.Ext{sample.Low(), sample.At(-2), sample.At(0), sample.At(1)} {
		for _, hi := range []api.Ext{sample.High(), sample.At(0), sample.At(1), sample.At(2)} {
			out = append(out, [2]api.Ext{lo, hi})
		}
	}
	return out
}

// TestOneRow: a column and a row with each pair of bounds, and coefficients of either sign: all that is known of the column alone is taken back.
func TestOneRow(t *testing.T) {
	count := map[string]int{}
	for _, c := range bounds() {
		for _, b := range bounds() {
			for _, a := range []api.Rat{sample.Frac(1, 1), sample.Frac(-1, 1), sample.Frac(2, 1), sample.Frac(-1, 2)} {
				for cost := -1; cost <= 1; cost++ {
					m := api.Model{Offset: sample.Frac(5, 1), Cols: []api.Col{sample.Col("x", cost, c[0], c[1])}, Rows: []api.Row{{Name: "r", Lo: b[0], Hi: b[1], Terms: []api.Term{{Col: 0, A: a}}}}}
					k, _ := checkBoth(t, m)
					tally(count, k)
				}
			}
		}
	}
	checkTally(t, count, 300)
}

// TestTwoRows: two rows of one term on one column, one behind the other, with a row that stays between them.
func TestTwoRows(t *testing.T) {
	count := map[string]int{}
	pairs := bounds()
	for i, b := range pairs {
		for j, d := range pairs {
			c := pairs[(i*5+j*3)%len(pairs)]
			sign := 1 - 2*((i+j)%2)
			m := api.Model{Offset: sample.Frac(0, 1), Cols: []api.Col{sample.Col("x", (i+2*j)%3-1, c[0], c[1]), sample.Col("y", 1, sample.At(0), sample.At(1))}, Rows: []api.Row{
				sample.Row("r", b[0], b[1], sample.Term(0, sign)), sample.Row("q", sample.At(-3), sample.High(), sample.Term(0, 1), sample.Term(1, -2)), sample.Row("p", d[0], d[1], sample.Term(0, 1)),
			}}
			k, _ := checkBoth(t, m)
			tally(count, k)
		}
	}
	checkTally(t, count, 100)
}

// tally counts what was known of the models that were left.
func tally(count map[string]int, k trial.Known) {
	count["points"] += len(k.Points)
	count["directions"] += len(k.Dirs)
	count["KKT points"] += len(k.Kkts)
	count["bases"] += len(k.Bases)
	count["certificates"] += len(k.Certs)
}

// checkTally: was each thing known often enough for the test to mean something?
func checkTally(t *testing.T, count map[string]int, least int) {
	t.Helper()
	for _, name := range []string{"points", "directions", "KKT points", "bases", "certificates"} {
		if count[name] < least {
			t.Errorf("only %d %s were tried", count[name], name)
		}
	}
}

// TestDrawn: models with much to take out, swept once, and several times with the pass of fixed columns between.
func TestDrawn(t *testing.T) {
	count, kinds := map[string]int{}, map[int]int{}
	for seed := range 2000 {
		m := sample.Prunable(seed)
		k, o := checkBoth(t, m)
		kinds[o.Kind]++
		tally(count, k)
		k, _, fault := trial.Way(m, single.Sweep, fixed.Sweep, single.Sweep, fixed.Sweep, single.Sweep)
		if fault != "" {
			t.Fatalf("P18.2: of %v, with fixed: %s", m, fault)
		}
		tally(count, k)
	}
	checkTally(t, count, 2000)
	if kinds[api.Empty] < 200 || kinds[api.Went] < 1000 {
		t.Errorf("the outcomes: %v", kinds)
	}
	for seed := range 300 {
		checkBoth(t, sample.Mixed(seed))
		checkBoth(t, sample.Drawn(seed))
	}
	for _, m := range sample.Models() {
		checkBoth(t, m)
	}
}

// TestFull: as many columns and rows as may be, all of which go.
func TestFull(t *testing.T) {
	m := api.Model{Offset: sample.Frac(0, 1)}
	for i := range api.MaxCols {
		m.Cols = append(m.Cols, sample.Col("x"+strconv.Itoa(i), i%3-1, sample.At(-i), sample.At(i)))
	}
	for i := range api.MaxRows {
		m.Rows = append(m.Rows, sample.Row("r"+strconv.Itoa(i), sample.AtFrac(-i, 3), sample.AtFrac(i, 2), sample.Term(i*7%64, 1-2*(i%2))))
	}
	checkBoth(t, m)
	for i := range m.Rows {
		m.Rows[i].Terms = nil
	}
	checkBoth(t, m)
	m.Rows[63].Lo = sample.At(1)
	checkBoth(t, m)
}
