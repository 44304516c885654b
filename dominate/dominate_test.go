package dominate_test

import (
	"math/big"
	"slices"
	"strconv"
	"testing"

	"tableau/api"
	"tableau/dominate"
	"tableau/edit"
	"tableau/fixed"
	"tableau/model"
	"tableau/pairup"
	"tableau/sample"
	"tableau/single"
	"tableau/trial"
)

// checkSweep: the model that is left, the outcome, and the numbers of the columns are those that the chapter says.
func checkSweep(t *testing.T, m api.Model) course {
	t.Helper()
	s := fresh(m)
	r, o, e := dominate.Sweep(m, s)
	want := swept(m)
	if same, f := model.Equal(r, want.left); e != api.OK || f != api.OK || !same {
		t.Fatalf("P20.1: of %v: %v, %d, want %v", m, r, e, want.left)
	}
	kind := api.Went
	if want.d != nil {
		kind = api.Pending
	}
	if o.Kind != kind || !slices.EqualFunc(o.D, want.d, sameRat) || !noCert(o) {
		t.Fatalf("P20.1: of %v: the outcome %v, want %d, %v", m, o, kind, want.d)
	}
	var x, primal, lift []api.Rat
	for place, c := range m.Cols {
		v, lost := want.gone[c.Name]
		if lost {
			primal, lift = append(primal, fromBig(v)), append(lift, sample.Frac(0, 1))
			continue
		}
		own := sample.Frac(2*place+1, 3)
		x, primal, lift = append(x, own), append(primal, own), append(lift, own)
	}
	y, e := s.Primal(x)
	z, f := s.Lift(x)
	if e != api.OK || f != api.OK || !slices.EqualFunc(y, primal, sameRat) || !slices.EqualFunc(z, lift, sameRat) {
		t.Fatalf("P20.2: of %v: Primal and Lift of %v: %v, %d and %v, %d", m, x, y, e, z, f)
	}
	if a, b, n, k := s.Size(); a != len(m.Cols) || b != len(m.Rows) || n != len(r.Cols) || k != len(r.Rows) || s.Tightened() {
		t.Fatalf("P17.1: of %v: Size = %d, %d, %d, %d", m, a, b, n, k)
	}
	return want
}

func noCert(o api.Outcome) bool {
	return len(o.Cert.RowLo)+len(o.Cert.RowHi)+len(o.Cert.ColLo)+len(o.Cert.ColHi) == 0
}

// A count is how often each thing was tried.
type count map[string]int

// tally counts what was known of a model that was left, and how the way to it ended.
func (c count) tally(k trial.Known, o api.Outcome) {
	ending := ""
	if o.Kind == api.Pending {
		ending = ", pending"
	}
	c["points"+ending] += len(k.Points)
	c["directions"+ending] += len(k.Dirs)
	c["KKT points"+ending] += len(k.Kkts)
	c["bases"+ending] += len(k.Bases)
	c["certificates"+ending] += len(k.Certs)
	c["outcomes"+ending]++
}

// check: was each thing tried often enough for the test to mean something?
func (c count) check(t *testing.T, least int, names ...string) {
	t.Helper()
	for _, name := range names {
		if c[name] < least {
			t.Errorf("only %d %s were tried", c[name], name)
		}
	}
}

// checkBoth: the way there, and the way back from all that is known of what is left.
func (c count) checkBoth(t *testing.T, m api.Model) {
	t.Helper()
	for at, n := range checkSweep(t, m).cases {
		c["case "+strconv.Itoa(at)] += n
	}
	k, o, fault := trial.Way(m, dominate.Sweep)
	if fault != "" {
		t.Fatalf("P20.2: of %v: %s", m, fault)
	}
	c.tally(k, o)
}

func went() []string {
	return []string{"points", "directions", "KKT points", "bases", "certificates", "outcomes"}
}

func pendings() []string {
	return []string{"points, pending", "certificates, pending", "outcomes, pending"}
}

// often: the cases that apply often.
func often() []string { return []string{"case 1", "case 2", "case 3", "case 5"} }

// TestExamples: those of the chapter, and columns of each case.
func TestExamples(t *testing.T) {
	for _, c := range []struct{ from, to string }{
		{"min 0 / col x 1 0 inf / col y 1 -inf inf / row r -inf 3 1 x -1 y", "min 0 / col y 1 -inf inf / row r -inf 3 -1 y"},
		{"min 0 / col x 0 -inf inf", "min 0"},
		{"min 0 / col x 0 -inf 5", "min 0"},
		// 1: crossed, with every cost.
		{"min 7 / col x 1 5 4 / col y 0 5 4 / col z -1 5 4", "min 7 / col x 1 5 4 / col y 0 5 4 / col z -1 5 4"},
		// 2 comes ahead of 3: a cost of 0 goes to Lo, if that is a number.
		{"min 0 / col x 0 2 9", "min 0"},
		{"min 1 / col x 3 2 9", "min 7"},
		{"min 1 / col x 3 -2/3 inf / row r -inf 4 6 x / row q -5 inf -1 x", "min -1 / row r -inf 8 / row q -17/3 inf"},
		{"min 1 / col x 0 2 9 / row r -inf 4 1 x", "min 1 / row r -inf 2"},
		{"min 1 / col x 0 4 4 / row r -inf inf 1 x", "min 1 / row r -inf inf"},
		// 3, as it may not fall, or its cost is below 0, or Lo is infinite.
		{"min 1 / col x 0 2 9 / row r 4 inf 1 x", "min 1 / row r -5 inf"},
		{"min 1 / col x -1 2 9 / row r 4 inf 1 x", "min -8 / row r -5 inf"},
		{"min 1 / col x -1 -inf 9 / row r -inf 4 -1/2 x", "min -8 / row r -inf 17/2"},
		{"min 1 / col x 0 -inf 0 / row r -inf inf -1/2 x", "min 1 / row r -inf inf"},
		// 4, and 5 where there are terms, though no bound of their rows.
		{"min 1 / col x 0 -inf inf / row r 1 2", "min 1 / row r 1 2"},
		{"min 1 / col x 0 -inf inf / row r -inf inf 1 x", "min 1 / col x 0 -inf inf / row r -inf inf 1 x"},
		// 5: the rows, or the cost, hold it.
		{"min 0 / col x 1 0 4 / row r 1 inf 1 x", "min 0 / col x 1 0 4 / row r 1 inf 1 x"},
		{"min 0 / col x 1 -inf 4 / row r 1 inf 1 x", "min 0 / col x 1 -inf 4 / row r 1 inf 1 x"},
		{"min 0 / col x -1 0 4 / row r -inf 1 1 x", "min 0 / col x -1 0 4 / row r -inf 1 1 x"},
		{"min 0 / col x 0 0 4 / row r 1 2 1 x", "min 0 / col x 0 0 4 / row r 1 2 1 x"},
		{"min 0 / col x 0 -inf 4 / row r -inf 2 1 x", "min 0 / col x 0 -inf 4 / row r -inf 2 1 x"},
		{"min 0 / col x 0 0 inf / row r -inf 2 -1 x", "min 0 / col x 0 0 inf / row r -inf 2 -1 x"},
		{"min 0 / col x 0 0 4 / row r -inf 2 1 x / row q -inf 2 -1 x", "min 0 / col x 0 0 4 / row r -inf 2 1 x / row q -inf 2 -1 x"},
		// One step makes no difference to what becomes of the columns ahead of it; those behind it are seen as it left them.
		{"min 0 / col x 1 0 4 / col y 1 3 4 / col z -1 3 4 / row r 1 inf 1 x / row q -inf 9 1 y -2 z", "min -1 / col x 1 0 4 / row r 1 inf 1 x / row q -inf 14"},
		{"min 0 / row r 1 2", "min 0 / row r 1 2"},
		{"min 3", "min 3"},
	} {
		m := read(t, c.from)
		r, o, e := dominate.Sweep(m, fresh(m))
		if same, f := model.Equal(r, read(t, c.to)); e != api.OK || f != api.OK || !same || o.Kind != api.Went {
			t.Errorf("P20.1: of %s: %v, %d, %d", c.from, r, o.Kind, e)
		}
		count{}.checkBoth(t, m)
	}
}

// TestPending: the sweep ends at the first column, at one in the middle, and at the last; columns ahead of it went, or stay; all costs and the offset are 0.
func TestPending(t *testing.T) {
	for _, c := range []struct {
		from, to string
		place    int
		way      int
		cols     int
	}{
		{"min 0 / col x -1 0 inf", "min 0 / col x 0 0 inf", 0, 1, 1},
		{"min 5 / col x 1 -inf 0", "min 0 / col x 0 -inf 0", 0, -1, 1},
		{"min 5 / col x 1/9 -inf inf / col y 3 1 inf", "min 0 / col x 0 -inf inf / col y 0 1 inf", 0, -1, 2},
		{"min 5 / col x -1/9 -inf inf / col y -3 1 inf", "min 0 / col x 0 -inf inf / col y 0 1 inf", 0, 1, 2},
		{"min 5 / col y 3 1 inf / col x 1 -inf 8 / col z 1 0 1", "min 0 / col x 0 -inf 8 / col z 0 0 1", 0, -1, 3},
		{"min 5 / col y 3 5 4 / col x -1 -2 inf / col z 1 0 1", "min 0 / col y 0 5 4 / col x 0 -2 inf / col z 0 0 1", 1, 1, 3},
		{"min 5 / col y 3 1 inf / col z 7 0 1 / col w 0 -inf inf / col x -1 0 inf / row r 2 inf 1 y 1 z 1 x", "min 0 / col y 0 1 inf / col z 0 0 1 / col x 0 0 inf / row r 2 inf 1 y 1 z 1 x", 2, 1, 4},
		{"min 5 / col y 3 1 inf / col x 2 -inf 6 / row r -inf 2 1 y 3 x / row q -4 inf -1/2 x", "min 0 / col x 0 -inf 6 / row r -inf 1 3 x / row q -4 inf -1/2 x", 0, -1, 2},
		{"min 5 / col y 3 1 inf / col x -2 0 inf / row r 2 inf 1 y 3 x / row q -inf 4 -1/2 x", "min 0 / col y 0 1 inf / col x 0 0 inf / row r 2 inf 1 y 3 x / row q -inf 4 -1/2 x", 1, 1, 2},
		{"min 0 / col x -1 0 inf / col y 0 5 4", "min 0 / col x 0 0 inf / col y 0 5 4", 0, 1, 2}, // DOC.md's 9
	} {
		m := read(t, c.from)
		s := fresh(m)
		r, o, e := dominate.Sweep(m, s)
		if same, f := model.Equal(r, read(t, c.to)); e != api.OK || f != api.OK || !same || o.Kind != api.Pending {
			t.Errorf("P20.1: of %s: %v, %d, %d", c.from, r, o.Kind, e)
		}
		d := noughts(len(r.Cols))
		d[c.place] = sample.Frac(c.way, 1)
		if !slices.EqualFunc(o.D, d, sameRat) || !noCert(o) {
			t.Errorf("P20.1: of %s: the outcome %v, want %v", c.from, o, d)
		}
		lifted, e := s.Lift(o.D)
		at, _ := model.Col(m, "x")
		want := noughts(c.cols)
		want[at] = sample.Frac(c.way, 1)
		if e != api.OK || !slices.EqualFunc(lifted, want, sameRat) {
			t.Errorf("P20.2: of %s: Lift = %v, %d", c.from, lifted, e)
		}
		count{}.checkBoth(t, m)
	}
}

// bounds: pairs of each kind, at 0, above and below it; one number twice; crossed.
func bounds() [][2]api.Ext {
	var out [][2]api.Ext
	for _, lo := range []api.Ext{sample.Low(), sample.At(-2), sample.At(0), sample.At(1)} {
		for _, hi := range []api.Ext{sample.High(), sample.At(-2), sample.At(0), sample.AtFrac(3, 2)} {
			out = append(out, [2]api.Ext{lo, hi})
		}
	}
	return out
}

// TestOneColumn: a column with each pair of bounds and each cost, in no row, in one and in two, whose bounds are of each kind, with coefficients of either sign.
func TestOneColumn(t *testing.T) {
	c := count{}
	rows := [][2]api.Ext{{sample.Low(), sample.High()}, {sample.At(-1), sample.High()}, {sample.Low(), sample.At(1)}, {sample.At(-1), sample.At(1)}, {sample.At(0), sample.At(0)}, {sample.At(1), sample.At(-1)}}
	for _, b := range bounds() {
		for _, cost := range []api.Rat{sample.Frac(-1, 1), sample.Frac(0, 1), sample.Frac(1, 2)} {
			m := api.Model{Offset: sample.Frac(5, 3), Cols: []api.Col{{Name: "x", Cost: cost, Lo: b[0], Hi: b[1]}}}
			c.checkBoth(t, m)
			for _, r := range rows {
				for _, a := range []int{-2, 0, 1} {
					first := sample.Row("r", r[0], r[1])
					if a != 0 {
						first.Terms = []api.Term{sample.Term(0, a)}
					}
					m.Rows = []api.Row{first}
					c.checkBoth(t, m)
					for i, q := range rows {
						m.Rows = []api.Row{first, sample.Row("q", q[0], q[1], sample.Term(0, 1-2*((i+a+2)%2)))}
						c.checkBoth(t, m)
					}
				}
			}
		}
	}
	c.check(t, 200, slices.Concat(went(), often(), []string{"points, pending", "outcomes, pending"})...)
	c.check(t, 5, "certificates, pending", "case 4")
}

// TestTwoColumns: each pair of bounds beside one another, in a row that both share: the second one is seen as the first one left the model, and its costs are gone where the sweep ended ahead of it.
func TestTwoColumns(t *testing.T) {
	c := count{}
	pairs := bounds()
	for i, b := range pairs {
		for j, d := range pairs {
			for way := range 4 {
				lo, hi := sample.Low(), sample.High()
				if way%2 == 1 {
					lo = sample.At(-1)
				} else {
					hi = sample.At(1)
				}
				m := api.Model{Offset: sample.Frac(1, 1), Cols: []api.Col{sample.Col("x", (i+j)%3-1, b[0], b[1]), sample.Col("y", (2*i+j+way)%3-1, d[0], d[1])}, Rows: []api.Row{
					sample.Row("r", lo, hi, sample.Term(0, 1), sample.Term(1, 1-way/2*3)), sample.Row("q", sample.At(-3), sample.High(), sample.Term(1, 1)),
				}}
				c.checkBoth(t, m)
			}
		}
	}
	c.check(t, 50, slices.Concat(went(), pendings(), often())...)
}

// TestSubstitute: one column goes as edit.Substitute has it, with Lo, with Hi and with 0, long numbers too.
func TestSubstitute(t *testing.T) {
	tried := 0
	for seed := range 300 {
		m := sample.Mixed(seed)
		if len(m.Cols) == 0 {
			continue
		}
		for i := range m.Rows {
			m.Rows[i].Lo, m.Rows[i].Hi = sample.At(-i), sample.At(i)
		}
		col := seed % len(m.Cols)
		for j := range m.Cols {
			if j != col {
				m.Cols[j].Lo, m.Cols[j].Hi = sample.At(1), sample.At(0)
			}
		}
		v := sample.Rats()[seed%len(sample.Rats())]
		c := &m.Cols[col]
		c.Lo, c.Hi = api.Ext{V: v}, sample.High()
		c.Cost = sample.Frac(seed%4, 3)
		if seed%3 == 1 {
			c.Lo, c.Hi, c.Cost = sample.Low(), c.Lo, sample.Frac(-(seed%4), 3)
		}
		for i := range m.Rows {
			if seed%3 == 1 {
				open(&m.Rows[i], col, 1)
			} else {
				open(&m.Rows[i], col, -1)
			}
		}
		want, _ := edit.Substitute(m, col, v)
		r, _, e := dominate.Sweep(m, fresh(m))
		if same, f := model.Equal(r, want); e != api.OK || f != api.OK || !same {
			t.Fatalf("P20.1: of %v: %v, %d, want %v", m, r, e, want)
		}
		checkSweep(t, m)
		tried += len(m.Rows)
	}
	if tried < 300 {
		t.Errorf("only %d rows were tried", tried)
	}
}

// open lets the row the column go that way.
func open(r *api.Row, col, way int) {
	for _, t := range r.Terms {
		if t.Col != col {
			continue
		}
		if t.A.Neg == (way < 0) {
			r.Hi = sample.High()
		} else {
			r.Lo = sample.Low()
		}
	}
}

// TestDrawn: models with much to take out, swept once, and several times with the other passes between.
func TestDrawn(t *testing.T) {
	c := count{}
	for seed := range 2000 {
		m := sample.Prunable(seed)
		c.checkBoth(t, m)
		for _, way := range [][]trial.Sweep{
			{dominate.Sweep, single.Sweep, fixed.Sweep, dominate.Sweep, single.Sweep},
			{single.Sweep, fixed.Sweep, dominate.Sweep, single.Sweep, dominate.Sweep},
			{pairup.Sweep, dominate.Sweep, single.Sweep, pairup.Sweep, dominate.Sweep},
		} {
			k, o, fault := trial.Way(m, way...)
			if fault != "" {
				t.Fatalf("P20.2: of %v, with the others: %s", m, fault)
			}
			c.tally(k, o)
		}
	}
	c.check(t, 200, slices.Concat(went(), pendings(), often())...)
	c.check(t, 30, "case 4")
	for seed := range 300 {
		c.checkBoth(t, sample.Mixed(seed))
		c.checkBoth(t, sample.Drawn(seed))
	}
	for _, m := range sample.Models() {
		c.checkBoth(t, m)
	}
}

// TestFull: as many columns and rows as may be: all columns go, or each other one does, or the last one is pending; long numbers.
func TestFull(t *testing.T) {
	for _, each := range []int{1, 2} {
		for _, last := range []bool{false, true} {
			m := sample.Full()
			for i := range m.Rows {
				m.Rows[i].Lo, m.Rows[i].Hi = sample.Low(), sample.At(i+1)
				for j := range m.Rows[i].Terms {
					m.Rows[i].Terms[j].A.Neg = false
				}
			}
			for i := range m.Cols {
				v := new(big.Rat).SetFrac(new(big.Int).Lsh(big.NewInt(int64(2*i-63)), uint(5*i)), big.NewInt(7))
				m.Cols[i].Cost, m.Cols[i].Lo, m.Cols[i].Hi = sample.Frac(i%5, 1), api.Ext{V: fromBig(v)}, sample.High()
				if i%each == 1 {
					m.Cols[i].Hi = api.Ext{V: fromBig(v.Sub(v, big.NewRat(1, 1)))}
				}
			}
			if last {
				m.Cols[63].Cost, m.Cols[63].Lo, m.Cols[63].Hi = sample.Frac(1, 1), sample.Low(), sample.At(3)
			}
			if c := checkSweep(t, m); len(c.left.Cols) > 64-64/each+1 || last != (c.d != nil) {
				t.Errorf("P20.1: %d columns are left, D is %v", len(c.left.Cols), c.d)
			}
			if each == 1 {
				count{}.checkBoth(t, m)
			}
		}
	}
}
