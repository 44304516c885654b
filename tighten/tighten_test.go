package tighten_test

import (
	"slices"
	"testing"

	"tableau/api"
	"tableau/model"
	"tableau/sample"
	"tableau/stack"
	"tableau/tighten"
	"tableau/trial"
)

// checkSweep: the model that is left is the one that the chapter says, and the columns' numbers stay what they are. It answers the stack, and how many bounds became stricter.
func (c count) checkSweep(t *testing.T, m api.Model) (*stack.Stack, int) {
	t.Helper()
	s := fresh(m)
	r, o, e := tighten.Sweep(m, s)
	want, list := swept(m, c)
	if same, f := model.Equal(r, want); e != api.OK || f != api.OK || !same || o.Kind != api.Went || !bare(o) {
		t.Fatalf("P24.1: of %v: %v, %v, %d, want %v", m, r, o, e, want)
	}
	x := fractions(len(r.Cols))
	y, e := s.Primal(x)
	z, f := s.Lift(x)
	if e != api.OK || f != api.OK || !slices.EqualFunc(y, x, sameRat) || !slices.EqualFunc(z, x, sameRat) {
		t.Fatalf("P24.2: of %v: Primal and Lift of %v: %v, %d and %v, %d", m, x, y, e, z, f)
	}
	if a, b, n, k := s.Size(); a != len(m.Cols) || b != len(m.Rows) || n != a || k != b || s.Tightened() != (len(list) > 0) {
		t.Fatalf("P17.1: of %v: Size = %d, %d, %d, %d, Tightened = %v", m, a, b, n, k, s.Tightened())
	}
	checkBasis(t, m, s, len(list) > 0)
	return s, len(list)
}

// checkBasis: a basis is refused just where a bound was tightened; else what is handed in is answered.
func checkBasis(t *testing.T, m api.Model, s *stack.Stack, tightened bool) {
	t.Helper()
	n, k := len(m.Cols), len(m.Rows)
	b := api.Basis{Cols: slices.Repeat([]api.Status{api.Upper}, n), Rows: make([]api.Status, k)}
	p := api.Point{X: fractions(n), Y: fractions(k), Z: fractions(n)}
	c, q, e := s.Basis(b, p)
	if tightened && (e != api.ErrPass || len(c.Cols)+len(c.Rows)+len(q.X)+len(q.Y)+len(q.Z) > 0) {
		t.Fatalf("P24.2: of %v: a basis behind a bound that was tightened: %v, %v, %d", m, c, q, e)
	}
	if !tightened && (e != api.OK || !slices.Equal(c.Cols, b.Cols) || !slices.Equal(c.Rows, b.Rows) || !slices.EqualFunc(q.Y, p.Y, sameRat) || !slices.EqualFunc(q.Z, p.Z, sameRat)) {
		t.Fatalf("P24.2: of %v: a basis where no bound was tightened: %v, %v, %d", m, c, q, e)
	}
}

// fractions: no two alike, of either sign.
func fractions(n int) []api.Rat {
	var out []api.Rat
	for place := range n {
		out = append(out, sample.Frac(5*place-2, 3))
	}
	return out
}

// bare: nothing stands beside the kind.
func bare(o api.Outcome) bool {
	return len(o.D)+len(o.Cert.RowLo)+len(o.Cert.RowHi)+len(o.Cert.ColLo)+len(o.Cert.ColHi) == 0
}

// A count is how often each thing was tried.
type count map[string]int

// tally counts what was known of a model that was left, and what of it leans on a bound that became stricter: then rows bear something else.
func (c count) tally(s *stack.Stack, k trial.Known) {
	c["points"] += len(k.Points)
	c["directions"] += len(k.Dirs)
	c["KKT points"] += len(k.Kkts)
	c["bases"] += len(k.Bases)
	c["certificates"] += len(k.Certs)
	for _, p := range k.Kkts {
		if q, _ := s.Dual(p); !slices.EqualFunc(q.Y, p.Y, sameRat) {
			c["KKT points that lean"]++
		}
	}
	for _, a := range k.Certs {
		if b, _ := s.Cert(a); !slices.EqualFunc(b.RowLo, a.RowLo, sameRat) || !slices.EqualFunc(b.RowHi, a.RowHi, sameRat) {
			c["certificates that lean"]++
		}
	}
}

// things: what a count of the way back has.
func things() []string {
	return []string{"points", "directions", "KKT points", "bases", "certificates", "KKT points that lean", "certificates that lean", "steps"}
}

// check: was each thing tried often enough for the test to mean something?
func (c count) check(t *testing.T, least int, names ...string) {
	t.Helper()
	for _, name := range names {
		if c[name] < least {
			t.Errorf("only %d of %s were tried", c[name], name)
		}
	}
}

// checkBoth: the way there, and the way back from all that is known of what is left.
func (c count) checkBoth(t *testing.T, m api.Model) {
	t.Helper()
	s, steps := c.checkSweep(t, m)
	k, _, fault := trial.Way(m, tighten.Sweep)
	if fault != "" {
		t.Fatalf("P24.2: of %v: %s", m, fault)
	}
	if steps > 0 {
		c["steps"] += steps
		c.tally(s, k)
	}
}

// TestExamples: those of the chapter and of the whole, and bounds of each kind.
func TestExamples(t *testing.T) {
	for _, c := range []struct{ cols, to, rows string }{
		{"col x -1 0 4 / col y -1 0 4", "col x -1 0 4 / col y -1 0 3", "row r -inf 6 1 x 2 y"},
		// No term, one term; a row's bound that is no number implies nothing.
		{"col x 1 0 4", "col x 1 0 4", "row r 1 2 / row s 5 inf / row t -inf -5 / row u -inf inf"},
		{"col x 1 -inf inf", "col x 1 1/3 2/3", "row r 1 2 3 x"},
		{"col x 1 -inf inf", "col x 1 -2/3 -1/3", "row r 1 2 -3 x"},
		{"col x 1 -inf inf", "col x 1 1/3 inf", "row r 1 inf 3 x"},
		{"col x 1 -inf inf", "col x 1 -inf -1/3", "row r 1 inf -3 x"},
		{"col x 1 -inf inf", "col x 1 -inf 2/3", "row r -inf 2 3 x"},
		{"col x 1 -inf inf", "col x 1 -2/3 inf", "row r -inf 2 -3 x"},
		{"col x 1 -inf inf", "col x 1 -inf inf", "row r -inf inf 3 x"},
		// Alike, looser, stricter.
		{"col x 1 1 2", "col x 1 1 2", "row r 1 2 1 x"},
		{"col x 1 1 2", "col x 1 1 2", "row r 0 3 1 x"},
		{"col x 1 1 2", "col x 1 4/3 5/3", "row r 4 5 3 x"},
		// Two terms, of each sign, by Lo and by Hi.
		{"col x 0 0 9 / col y 0 0 4", "col x 0 6 9 / col y 0 1 4", "row r 10 inf 1 x 1 y"},
		{"col x 0 0 9 / col y 0 0 4", "col x 0 3 9 / col y 0 0 4", "row r 3 inf 1 x -1 y"},
		{"col x 0 0 9 / col y 0 0 4", "col x 0 0 1 / col y 0 3 4", "row r 3 inf -1 x 1 y"},
		{"col x 0 0 9 / col y 0 0 4", "col x 0 0 3 / col y 0 0 3", "row r -3 inf -1 x -1 y"},
		{"col x 0 0 9 / col y 0 0 4", "col x 0 0 3 / col y 0 0 3", "row r -inf 3 1 x 1 y"},
		{"col x 0 0 9 / col y 0 0 4", "col x 0 0 1 / col y 0 3 4", "row r -inf -3 1 x -1 y"},
		{"col x 0 0 9 / col y 0 0 4", "col x 0 3 9 / col y 0 0 4", "row r -inf -3 -1 x 1 y"},
		{"col x 0 0 9 / col y 0 0 4", "col x 0 6 9 / col y 0 1 4", "row r -inf -10 -1 x -1 y"},
		// An infinite bound among the others: nothing; but that column itself is told.
		{"col x 0 0 inf / col y 0 0 4", "col x 0 6 inf / col y 0 0 4", "row r 10 inf 1 x 1 y"},
		{"col x 0 -inf inf / col y 0 0 4", "col x 0 6 14 / col y 0 0 4", "row r 10 14 1 x 1 y"},
		{"col x 0 0 inf / col y 0 0 inf", "col x 0 0 inf / col y 0 0 inf", "row r 10 inf 1 x 1 y"},
		{"col x 0 0 inf / col y 0 0 inf", "col x 0 0 10 / col y 0 0 10", "row r -inf 10 1 x 1 y"},
		{"col x 0 0 inf / col y 0 0 inf", "col x 0 10 inf / col y 0 0 inf", "row r 10 inf 1 x -1 y"},
		{"col x 0 0 inf / col y 0 -inf 0 / col z 0 0 5", "col x 0 0 inf / col y 0 -inf 0 / col z 0 0 5", "row r 0 10 1 x 1 y 1 z"},
		{"col x 0 0 inf / col y 0 -inf 0 / col z 0 0 5", "col x 0 0 10 / col y 0 -10 0 / col z 0 0 5", "row r -inf 10 1 x -1 y 1 z"},
		// Bounds that were tightened ahead: in the row, by its other side, by a row ahead; a row behind is not seen again.
		{"col x 0 0 9 / col y 0 0 9 / col z 0 -9 9", "col x 0 0 2 / col y 0 0 2 / col z 0 -2 2", "row a -inf 2 1 x 1 y / row b 0 0 1 x -1 y -1 z"},
		{"col x 0 -inf inf / col y 0 0 3", "col x 0 1 6 / col y 0 0 3", "row r 4 6 1 x 1 y"},
		{"col x 0 0 9 / col y 0 0 9", "col x 0 0 9 / col y 0 0 5", "row a -inf 9 1 x / row b -inf 5 1 y"},
		{"col x 0 0 inf / col y 0 0 9", "col x 0 0 5 / col y 0 0 5", "row b -inf 0 1 x -1 y / row a -inf 5 1 y / row c -inf 0 1 x -1 y"},
		{"col x 0 0 inf / col y 0 0 9", "col x 0 0 9 / col y 0 0 5", "row b -inf 0 1 x -1 y / row a -inf 5 1 y"},
		{"col x 0 0 8 / col y 0 0 8", "col x 0 0 1 / col y 0 0 1/2", "row a -inf 0 1 x -1/2 y / row b -inf 0 -1/2 x 1 y / row c -inf 0 1 x -1/2 y / row d -inf 0 -1/2 x 1 y"},
		// They become crossed; crossed ones are reckoned with as they stand.
		{"col x 0 0 4", "col x 0 5 4", "row r 5 inf 1 x"},
		{"col x 0 0 4", "col x 0 5 -1", "row r 5 -1 1 x"},
		{"col x 0 2 1 / col y 0 0 9", "col x 0 2 1 / col y 0 4 3", "row r 5 5 1 x 1 y"},
		{"col x 0 0 1 / col y 0 0 1", "col x 0 2 1 / col y 0 2 -1", "row r 3 1 1 x 1 y"},
		// One number; fractions; three terms and more.
		{"col x 0 2 2 / col y 0 -inf inf", "col x 0 2 2 / col y 0 -1/2 -1/2", "row r 5 5 3 x 2 y"},
		{"col x 0 0 1 / col y 0 0 1 / col z 0 -inf inf", "col x 0 0 1 / col y 0 0 1 / col z 0 -5/6 13/6", "row r -inf 1 -1/2 x -2/3 y 1 z / row s -1 inf -1/2 x 2/3 y 2 z / row t 0 9"},
		{"col w 0 0 3 / col x 0 0 3 / col y 0 0 3 / col z 0 0 3", "col w 0 2 3 / col x 0 2 3 / col y 0 2 3 / col z 0 2 3", "row r 11 inf 1 w 1 x 1 y 1 z"},
		{"col w 0 0 3 / col x 0 0 3 / col y 0 0 3 / col z 0 0 3", "col w 0 0 1 / col x 0 0 1 / col y 0 0 1 / col z 0 0 1", "row r -inf 1 1 w 1 x 1 y 1 z"},
		{"col x 0 0 1", "col x 0 0 1", ""},
	} {
		from, to := "min 1/2 / "+c.cols, "min 1/2 / "+c.to
		if c.rows != "" {
			from, to = from+" / "+c.rows, to+" / "+c.rows
		}
		m := read(t, from)
		r, o, e := tighten.Sweep(m, fresh(m))
		if same, f := model.Equal(r, read(t, to)); e != api.OK || f != api.OK || !same || o.Kind != api.Went {
			t.Errorf("P24.1: of %s: %v, %d, %d", from, r, o.Kind, e)
		}
		count{}.checkBoth(t, m)
	}
}
