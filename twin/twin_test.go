package twin_test

import (
	"math/big"
	"math/rand/v2"
	"slices"
	"strconv"
	"testing"

	"tableau/api"
	"tableau/dominate"
	"tableau/fixed"
	"tableau/model"
	"tableau/pairup"
	"tableau/sample"
	"tableau/single"
	"tableau/subst"
	"tableau/trial"
	"tableau/twin"
)

// checkSweep: the model that is left is the one that the chapter says, and the columns' numbers stay what they are. It answers how many rows went.
func checkSweep(t *testing.T, m api.Model) int {
	t.Helper()
	s := fresh(m)
	r, o, e := twin.Sweep(m, s)
	want, gone := swept(m)
	if same, f := model.Equal(r, want); e != api.OK || f != api.OK || !same || o.Kind != api.Went || !bare(o) {
		t.Fatalf("P23.1: of %v: %v, %v, %d, want %v", m, r, o, e, want)
	}
	var x []api.Rat
	for place := range r.Cols {
		x = append(x, sample.Frac(5*place-2, 3))
	}
	y, e := s.Primal(x)
	z, f := s.Lift(x)
	if e != api.OK || f != api.OK || !slices.EqualFunc(y, x, sameRat) || !slices.EqualFunc(z, x, sameRat) {
		t.Fatalf("P23.2: of %v: Primal and Lift of %v: %v, %d and %v, %d", m, x, y, e, z, f)
	}
	if a, b, n, k := s.Size(); a != len(m.Cols) || b != len(m.Rows) || n != len(r.Cols) || k != len(r.Rows) || s.Tightened() {
		t.Fatalf("P17.1: of %v: Size = %d, %d, %d, %d", m, a, b, n, k)
	}
	return len(gone)
}

// bare: nothing stands beside the kind.
func bare(o api.Outcome) bool {
	return len(o.D)+len(o.Cert.RowLo)+len(o.Cert.RowHi)+len(o.Cert.ColLo)+len(o.Cert.ColHi) == 0
}

// A count is how often each thing was tried.
type count map[string]int

// tally counts what was known of a model that was left.
func (c count) tally(k trial.Known) {
	c["points"] += len(k.Points)
	c["directions"] += len(k.Dirs)
	c["KKT points"] += len(k.Kkts)
	c["bases"] += len(k.Bases)
	c["certificates"] += len(k.Certs)
}

// check: was each thing tried often enough for the test to mean something?
func (c count) check(t *testing.T, least int) {
	t.Helper()
	for _, name := range []string{"points", "directions", "KKT points", "bases", "certificates", "steps"} {
		if c[name] < least {
			t.Errorf("only %d %s were tried", c[name], name)
		}
	}
}

// checkBoth: the way there, and the way back from all that is known of what is left.
func (c count) checkBoth(t *testing.T, m api.Model) {
	t.Helper()
	steps := checkSweep(t, m)
	k, _, fault := trial.Way(m, twin.Sweep)
	if fault != "" {
		t.Fatalf("P23.2: of %v: %s", m, fault)
	}
	if steps > 0 {
		c["steps"] += steps
		c.tally(k)
	}
}

// TestExamples: that of the chapter, and multiples of each kind, beside rows that are none.
func TestExamples(t *testing.T) {
	for _, c := range []struct{ from, to string }{
		{"col x 1 0 9 / col y 1 0 9 / row r -inf 4 1 x 1 y / row s -inf -2 -2 x -2 y", "col x 1 0 9 / col y 1 0 9 / row r 1 4 1 x 1 y"},
		// l is 1, -1, a fraction of either sign.
		{"col x 1 0 9 / col y 1 0 9 / row r 0 4 1 x 2 y / row s 1 5 1 x 2 y", "col x 1 0 9 / col y 1 0 9 / row r 1 4 1 x 2 y"},
		{"col x 1 0 9 / col y 1 0 9 / row r 0 4 1 x 2 y / row s -3 -2 -1 x -2 y", "col x 1 0 9 / col y 1 0 9 / row r 2 3 1 x 2 y"},
		{"col x 1 0 9 / col y 1 0 9 / row r -9 9 3 x -6 y / row s -1 2 1 x -2 y", "col x 1 0 9 / col y 1 0 9 / row r -3 6 3 x -6 y"},
		{"col x 1 0 9 / col y 1 0 9 / row r -9 9 4 x -6 y / row s -1 2 -2/3 x 1 y", "col x 1 0 9 / col y 1 0 9 / row r -9 6 4 x -6 y"},
		// Bounds that are infinite, on either side, by either sign.
		{"col x 1 0 9 / row r -inf inf 1 x / row s 1 inf 2 x", "col x 1 0 9 / row r 1/2 inf 1 x"},
		{"col x 1 0 9 / row r -inf inf 1 x / row s 1 inf -2 x", "col x 1 0 9 / row r -inf -1/2 1 x"},
		{"col x 1 0 9 / row r -inf inf 1 x / row s -inf 1 -2 x", "col x 1 0 9 / row r -1/2 inf 1 x"},
		{"col x 1 0 9 / row r -inf inf 1 x / row s -inf inf -2 x", "col x 1 0 9 / row r -inf inf 1 x"},
		{"col x 1 0 9 / row r 1 2 1 x / row s -inf inf -2 x", "col x 1 0 9 / row r 1 2 1 x"},
		// They become crossed, or one number; crossed ones stay so, or not in row i.
		{"col x 1 0 9 / col y 1 0 9 / row r 5 inf 1 x 1 y / row s -inf 4 1 x 1 y", "col x 1 0 9 / col y 1 0 9 / row r 5 4 1 x 1 y"},
		{"col x 1 0 9 / col y 1 0 9 / row r 5 inf 1 x 1 y / row s -inf 5 1 x 1 y", "col x 1 0 9 / col y 1 0 9 / row r 5 5 1 x 1 y"},
		{"col x 1 0 9 / row r 0 9 1 x / row s 2 1 1 x", "col x 1 0 9 / row r 2 1 1 x"},
		{"col x 1 0 9 / row r 3 1 1 x / row s 0 4 -1 x", "col x 1 0 9 / row r 3 0 1 x"},
		// Equations, and multiples of them, that say the same and another thing.
		{"col x 1 0 9 / col y 1 0 9 / row r 5 5 1 x 1 y / row s 10 10 2 x 2 y / row q 0 9 1 x 1 y", "col x 1 0 9 / col y 1 0 9 / row r 5 5 1 x 1 y"},
		{"col x 1 0 9 / col y 1 0 9 / row r 5 5 1 x 1 y / row s -8 -8 -2 x -2 y", "col x 1 0 9 / col y 1 0 9 / row r 5 4 1 x 1 y"},
		// The same columns, but no multiple; other columns; fewer, and more; no terms.
		{"col x 1 0 9 / col y 1 0 9 / row r 5 inf 1 x 1 y / row s -inf 4 1 x 2 y / row q 0 1 1 x / row p 0 1 1 y / row o 0 1 1 x -1 y / row n 0 1 / row m 0 2",
			"col x 1 0 9 / col y 1 0 9 / row r 5 inf 1 x 1 y / row s -inf 4 1 x 2 y / row q 0 1 1 x / row p 0 1 1 y / row o 0 1 1 x -1 y / row n 0 1 / row m 0 2"},
		{"col x 1 0 9 / col y 1 0 9 / col z 1 0 9 / row r 0 1 1 x 1 y / row s 0 1 1 x 1 y 1 z / row q 0 1 1 x 1 z / row p 0 1 1 y 1 z / row o 0 1 2 x 2 y 1 z",
			"col x 1 0 9 / col y 1 0 9 / col z 1 0 9 / row r 0 1 1 x 1 y / row s 0 1 1 x 1 y 1 z / row q 0 1 1 x 1 z / row p 0 1 1 y 1 z / row o 0 1 2 x 2 y 1 z"},
		// Three and more; pairs that lie apart, and between one another. The first row of them stays, with its name and its terms.
		{"col x -1 0 9 / row r -inf 4 2 x / row q 0 1 / row s 0 3 1 x / row p -inf inf -1 x", "col x -1 0 9 / row r 0 4 2 x / row q 0 1"},
		{"col x 1 0 9 / col y 1 0 9 / row a 0 9 1 x / row b 0 9 1 y / row c 1 8 -1 x / row d 2 16 2 y / row e 1 8 1 x 1 y / row f 3 7 1 x / row g -6 -3 -1 y",
			"col x 1 0 9 / col y 1 0 9 / row a 3 -1 1 x / row b 3 6 1 y / row e 1 8 1 x 1 y"},
		{"col x 1 0 9 / row a 0 9 2 x / row b 0 4 1 x / row c 2 9 3 x / row d -inf -1 -1 x", "col x 1 0 9 / row a 2 6 2 x"},
		{"col x 1 0 9", "col x 1 0 9"},
	} {
		m := read(t, "min 1/2 / "+c.from)
		r, o, e := twin.Sweep(m, fresh(m))
		if same, f := model.Equal(r, read(t, "min 1/2 / "+c.to)); e != api.OK || f != api.OK || !same || o.Kind != api.Went {
			t.Errorf("P23.1: of %s: %v, %d, %d", c.from, r, o.Kind, e)
		}
		count{}.checkBoth(t, m)
	}
}

// bounds: pairs of each kind; one number twice; crossed. nil is infinite.
func bounds() [][2]*big.Rat {
	var out [][2]*big.Rat
	for _, lo := range []*big.Rat{nil, big.NewRat(-2, 1), new(big.Rat), big.NewRat(1, 1)} {
		for _, hi := range []*big.Rat{nil, new(big.Rat), big.NewRat(1, 1), big.NewRat(2, 1)} {
			out = append(out, [2]*big.Rat{lo, hi})
		}
	}
	return out
}

// row: the terms and the bounds, l times.
func row(name string, b [2]*big.Rat, l *big.Rat, terms ...int) api.Row {
	if l.Sign() < 0 {
		b[0], b[1] = b[1], b[0]
	}
	for i := range b {
		if b[i] != nil {
			b[i] = product(b[i], l)
		}
	}
	r := api.Row{Name: name, Lo: fromBound(b[0], -1), Hi: fromBound(b[1], 1)}
	for col, a := range terms {
		if a != 0 {
			r.Terms = append(r.Terms, api.Term{Col: col, A: fromBig(product(big.NewRat(int64(a), 1), l))})
		}
	}
	return r
}

// columns: so many, whose bounds are those of these places, in turn.
func columns(costs []int, kinds ...int) api.Model {
	pairs := bounds()
	m := api.Model{Offset: sample.Frac(1, 2)}
	for i, cost := range costs {
		b := pairs[kinds[i%len(kinds)]%len(pairs)]
		m.Cols = append(m.Cols, sample.Col("x"+strconv.Itoa(i), cost, fromBound(b[0], -1), fromBound(b[1], 1)))
	}
	return m
}

// multiples: l of either sign, 1 and -1, a fraction.
func multiples() []*big.Rat {
	return []*big.Rat{big.NewRat(1, 1), big.NewRat(-1, 1), big.NewRat(2, 1), big.NewRat(-2, 3), big.NewRat(-3, 1), big.NewRat(1, 5)}
}

// TestTwoRows: both with each pair of bounds, so that the one's are stricter than the other's, looser and alike, and both become one number, and crossed; of one, two and three terms; l of each kind; costs that lean on either side, and on none.
func TestTwoRows(t *testing.T) {
	c := count{}
	terms := [][]int{{1}, {2, -1}, {-1, 1, 3}, {0, 2}}
	for i, first := range bounds() {
		for k, second := range bounds() {
			for n, l := range multiples() {
				for kind := range terms {
					lean := (i+k+n)%3 - 1
					costs := make([]int, len(terms[kind]))
					for col, a := range terms[kind] {
						costs[col] = a * lean
						if (n+k)%4 == 3 {
							costs[col] = (col+i)%3 - 1
						}
					}
					// The first pair of bounds is that of a free column.
					m := columns(costs, (i+k)%5*3, n*(kind+i))
					m.Rows = []api.Row{row("r", first, big.NewRat(1, 1), terms[kind]...), row("s", second, l, terms[kind]...)}
					c.checkBoth(t, m)
				}
			}
		}
	}
	c.check(t, 2000)
}

// TestBetween: rows that are multiples of two or three others, in each order, so that they lie apart and between one another, with rows that are none.
func TestBetween(t *testing.T) {
	c := count{}
	pairs := bounds()
	lists := [][]int{{1, 1}, {1, -1}, {2, 0}}
	for seed := range 1200 {
		g := rand.New(rand.NewPCG(uint64(seed), 23))
		m := columns([]int{g.IntN(3) - 1, g.IntN(3) - 1}, g.IntN(len(pairs)), g.IntN(len(pairs)))
		for i := range 3 + g.IntN(3) {
			kind, b, l := g.IntN(len(lists)+1), pairs[g.IntN(len(pairs))], multiples()[g.IntN(len(multiples()))]
			if kind == len(lists) {
				m.Rows = append(m.Rows, row("r"+strconv.Itoa(i), b, l))
				continue
			}
			m.Rows = append(m.Rows, row("r"+strconv.Itoa(i), b, l, lists[kind]...))
		}
		c.checkBoth(t, m)
	}
	c.check(t, 500)
}

// ways: scripts in which the pass stands beside all the others.
func ways() [][]trial.Sweep {
	return [][]trial.Sweep{
		{twin.Sweep, single.Sweep, fixed.Sweep, twin.Sweep, pairup.Sweep},
		{subst.Sweep, twin.Sweep, twin.Sweep, single.Sweep, subst.Sweep, twin.Sweep},
		{fixed.Sweep, twin.Sweep, dominate.Sweep, single.Sweep, twin.Sweep},
		{pairup.Sweep, twin.Sweep, subst.Sweep, pairup.Sweep, twin.Sweep, dominate.Sweep},
	}
}

// checkWays: several sweeps on one stack.
func (c count) checkWays(t *testing.T, m api.Model) {
	t.Helper()
	for i, way := range ways() {
		k, _, fault := trial.Way(m, way...)
		if fault != "" {
			t.Fatalf("P23.2: of %v, by script %d: %s", m, i, fault)
		}
		c.tally(k)
	}
}

// TestDrawn: models with much to take out, swept once, and several times with the other passes between.
func TestDrawn(t *testing.T) {
	c := count{}
	for seed := range 2000 {
		m := sample.Prunable(seed)
		c.checkBoth(t, m)
		if seed%2 == 0 {
			c.checkWays(t, m)
		}
	}
	c.check(t, 200)
	for seed := range 300 {
		c.checkBoth(t, sample.Mixed(seed))
		c.checkBoth(t, sample.Drawn(seed))
	}
	for _, m := range sample.Models() {
		c.checkBoth(t, m)
	}
}

// doubled: a drawn model with multiples of its rows beside them, whose bounds are stricter or looser.
func doubled(seed int) api.Model {
	g := rand.New(rand.NewPCG(uint64(seed), 24))
	m := sample.Prunable(seed)
	for i := range 3 {
		if len(m.Rows) == 0 || len(m.Rows) > 5 {
			break
		}
		b, l := bounds()[g.IntN(len(bounds()))], multiples()[g.IntN(len(multiples()))]
		r := row("d"+strconv.Itoa(i), b, l)
		for _, t := range m.Rows[g.IntN(len(m.Rows))].Terms {
			r.Terms = append(r.Terms, api.Term{Col: t.Col, A: fromBig(product(toBig(t.A), l))})
		}
		m.Rows = slices.Insert(m.Rows, g.IntN(len(m.Rows)+1), r)
	}
	return m
}

// TestDoubled: with one sweep, and with several.
func TestDoubled(t *testing.T) {
	c := count{}
	for seed := range 600 {
		m := doubled(seed)
		c.checkBoth(t, m)
		c.checkWays(t, m)
	}
	c.check(t, 300)
}

// full: as many columns and rows as may be, each row a multiple of one of the first ones, by size.
func full(firsts int, size func(i int) *big.Rat) api.Model {
	m := api.Model{Offset: sample.Frac(0, 1)}
	for i := range api.MaxCols {
		m.Cols = append(m.Cols, sample.Col("x"+strconv.Itoa(i), i%5-2, sample.At(-1000-i), sample.At(1000+i)))
	}
	for i := range api.MaxRows {
		terms := make([]int, api.MaxCols)
		for col := range terms {
			terms[col] = (col+i%firsts)%3 - 1 + 5*((col+i%firsts)%7)
		}
		b := [2]*big.Rat{big.NewRat(int64(i%5-9), 3), big.NewRat(int64(9-i%7), 4)}
		m.Rows = append(m.Rows, row("r"+strconv.Itoa(i), b, size(i), terms...))
	}
	return m
}

// TestFull: rows of all columns, all multiples of one, and of a few.
func TestFull(t *testing.T) {
	long := func(i int) *big.Rat {
		return new(big.Rat).SetFrac(new(big.Int).Add(new(big.Int).Lsh(big.NewInt(1), uint(5*i)), big.NewInt(1)), big.NewInt(int64(3-6*(i%2))))
	}
	short := func(i int) *big.Rat { return big.NewRat(int64(1-i/3%2*2), int64(1+i%2)) }
	for _, firsts := range []int{1, 4} {
		for i, size := range []func(i int) *big.Rat{long, short} {
			m := full(firsts, size)
			if n := checkSweep(t, m); n != api.MaxRows-firsts {
				t.Errorf("P23.1: %d rows went", n)
			}
			if i == 1 {
				count{}.checkBoth(t, m)
			}
		}
	}
}
