package fixed_test

import (
	"math/big"
	"slices"
	"strconv"
	"testing"

	"tableau/api"
	"tableau/edit"
	"tableau/fixed"
	"tableau/model"
	"tableau/sample"
	"tableau/single"
	"tableau/trial"
)

// checkSweep: the model that is left is the one that the chapter says, and so are the numbers of the columns.
func checkSweep(t *testing.T, m api.Model) {
	t.Helper()
	s := fresh(m)
	r, o, e := fixed.Sweep(m, s)
	want, gone := swept(m)
	if same, f := model.Equal(r, want); e != api.OK || f != api.OK || !same || o.Kind != api.Went || !noCert(o) {
		t.Fatalf("P19.1: of %v: %v, %v, %d, want %v", m, r, o, e, want)
	}
	var x, primal, lift []api.Rat
	for place, c := range m.Cols {
		v, lost := gone[c.Name]
		if lost {
			primal, lift = append(primal, fromBig(v)), append(lift, sample.Frac(0, 1))
			continue
		}
		own := sample.Frac(2*place+1, 3)
		x, primal, lift = append(x, own), append(primal, own), append(lift, own)
	}
	y, e := s.Primal(x)
	z, f := s.Lift(x)
	if e != api.OK || f != api.OK || !slices.EqualFunc(y, primal, sameRat) || !slices.EqualFunc(z, lift, sameRat) {
		t.Fatalf("P19.2: of %v: Primal and Lift of %v: %v, %d and %v, %d", m, x, y, e, z, f)
	}
	if a, b, n, k := s.Size(); a != len(m.Cols) || b != len(m.Rows) || n != len(r.Cols) || k != len(r.Rows) {
		t.Fatalf("P17.1: of %v: Size = %d, %d, %d, %d", m, a, b, n, k)
	}
}

func noCert(o api.Outcome) bool {
	return len(o.D)+len(o.Cert.RowLo)+len(o.Cert.RowHi)+len(o.Cert.ColLo)+len(o.Cert.ColHi) == 0
}

// checkBoth: the way there, and the way back from all that is known of what is left.
func checkBoth(t *testing.T, m api.Model) trial.Known {
	t.Helper()
	checkSweep(t, m)
	k, _, fault := trial.Way(m, fixed.Sweep)
	if fault != "" {
		t.Fatalf("P19.2: of %v: %s", m, fault)
	}
	return k
}

// tally counts what was known of the models that were left.
func tally(count map[string]int, k trial.Known) {
	count["points"] += len(k.Points)
	count["directions"] += len(k.Dirs)
	count["KKT points"] += len(k.Kkts)
	count["bases"] += len(k.Bases)
	count["certificates"] += len(k.Certs)
}

// checkTally: was each thing known often enough for the test to mean something?
func checkTally(t *testing.T, count map[string]int, least int) {
	t.Helper()
	for _, name := range []string{"points", "directions", "KKT points", "bases", "certificates"} {
		if count[name] < least {
			t.Errorf("only %d %s were tried", count[name], name)
		}
	}
}

// TestExamples: that of the chapter, DOC.md's 6 behind single, and columns of each kind.
func TestExamples(t *testing.T) {
	for _, c := range []struct{ from, to string }{
		{"min 0 / col x 3 2 2 / col y 0 -inf inf / row r -inf 5 1 x 1 y", "min 6 / col y 0 -inf inf / row r -inf 3 1 y"},
		{"min 0 / col x 1 2/3 2/3", "min 2/3"},
		{"min 1/2 / col x 0 7 7", "min 1/2"},
		{"min 0 / col x 5 0 0 / row r 1 2 4 x", "min 0 / row r 1 2"},
		{"min 0 / col x -3 -2 -2 / row r 1 2 4 x / row q -inf 3 -1/2 x", "min 6 / row r 9 10 / row q -inf 2"},
		{"min 0 / col x 1 0 1 / col y 1 -inf inf / col z 1 2 1 / col w 1 1 inf", "min 0 / col x 1 0 1 / col y 1 -inf inf / col z 1 2 1 / col w 1 1 inf"},
		{"min 0 / col x 1 1 1 / col y 1 2 2 / col z 1 3 4 / col w 1 5 5 / row r 0 9 1 x 1 y 1 z 1 w / row q 4 4 2 y 2 z", "min 8 / col z 1 3 4 / row r -8 1 1 z / row q 0 0 2 z"},
		{"min 0 / col x 1 0 1 / col y 1 2 2 / row r -inf inf 1 x 1 y", "min 2 / col x 1 0 1 / row r -inf inf 1 x"},
		{"min 0", "min 0"},
	} {
		m := read(t, c.from)
		r, o, e := fixed.Sweep(m, fresh(m))
		if same, f := model.Equal(r, read(t, c.to)); e != api.OK || f != api.OK || !same || o.Kind != api.Went {
			t.Errorf("P19.1: of %s: %v, %d, %d", c.from, r, o.Kind, e)
		}
		checkBoth(t, m)
	}
	m := read(t, "min 0 / col x 1 -inf inf / row r 2 2 3 x")
	if _, _, fault := trial.Way(m, single.Sweep, fixed.Sweep); fault != "" {
		t.Errorf("P19.2: DOC.md's 6: %s", fault)
	}
}

// TestSubstitute: one column goes as edit.Substitute has it.
func TestSubstitute(t *testing.T) {
	for seed := range 300 {
		m := sample.Mixed(seed)
		for col := range m.Cols {
			for j := range m.Cols {
				m.Cols[j].Lo, m.Cols[j].Hi = sample.At(0), sample.High()
			}
			v := sample.Rats()[(seed+col)%len(sample.Rats())]
			m.Cols[col].Lo, m.Cols[col].Hi = api.Ext{V: v}, api.Ext{V: v}
			want, _ := edit.Substitute(m, col, v)
			r, _, e := fixed.Sweep(m, fresh(m))
			if same, f := model.Equal(r, want); e != api.OK || f != api.OK || !same {
				t.Fatalf("P19.1: of %v: %v, %d, want %v", m, r, e, want)
			}
			checkSweep(t, m)
		}
	}
}

// TestDrawn: models with much to take out, swept once, and several times with the pass of rows of one term between.
func TestDrawn(t *testing.T) {
	count := map[string]int{}
	for seed := range 2000 {
		m := sample.Prunable(seed)
		tally(count, checkBoth(t, m))
		k, _, fault := trial.Way(m, fixed.Sweep, single.Sweep, fixed.Sweep, fixed.Sweep, single.Sweep)
		if fault != "" {
			t.Fatalf("P19.2: of %v, with single: %s", m, fault)
		}
		tally(count, k)
	}
	checkTally(t, count, 2000)
	for seed := range 300 {
		checkBoth(t, sample.Mixed(seed))
		checkBoth(t, sample.Drawn(seed))
	}
	for _, m := range sample.Models() {
		checkBoth(t, m)
	}
}

// TestFull: as many columns and rows as may be: all, each other and no column goes; long numbers.
func TestFull(t *testing.T) {
	for _, each := range []int{1, 2, 65} {
		m := sample.Full()
		for i := range m.Cols {
			if i%each == each-1 {
				v := new(big.Rat).SetFrac(new(big.Int).Lsh(big.NewInt(int64(2*i-63)), uint(5*i)), big.NewInt(7))
				m.Cols[i].Lo, m.Cols[i].Hi = api.Ext{V: fromBig(v)}, api.Ext{V: fromBig(v)}
			} else {
				m.Cols[i].Hi = sample.At(i + 1)
			}
		}
		checkSweep(t, m)
		if each == 1 {
			checkBoth(t, m)
		}
	}
	m := api.Model{Offset: sample.Frac(0, 1)}
	for i := range api.MaxCols {
		m.Cols = append(m.Cols, sample.Col("x"+strconv.Itoa(i), i-9, sample.AtFrac(i-30, 7), sample.AtFrac(i-30, 7)))
	}
	checkBoth(t, m)
}
