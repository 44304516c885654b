package pairup_test

import (
	"math/big"
	"slices"
	"strconv"
	"testing"

	"tableau/api"
	"tableau/dominate"
	"tableau/fixed"
	"tableau/model"
	"tableau/pairup"
	"tableau/sample"
	"tableau/single"
	"tableau/trial"
)

// checkSweep: the model that is left and the numbers of the columns are those that the chapter says. It answers how many columns went.
func checkSweep(t *testing.T, m api.Model) int {
	t.Helper()
	s := fresh(m)
	r, o, e := pairup.Sweep(m, s)
	want, gone := swept(m)
	if same, f := model.Equal(r, want); e != api.OK || f != api.OK || !same || o.Kind != api.Went || !bare(o) {
		t.Fatalf("P21.1: of %v: %v, %v, %d, want %v", m, r, o, e, want)
	}
	x, d := map[string]*big.Rat{}, map[string]*big.Rat{}
	var numbers []api.Rat
	for place, c := range r.Cols {
		numbers = append(numbers, sample.Frac(5*place-2, 3))
		x[c.Name], d[c.Name] = toBig(numbers[place]), toBig(numbers[place])
	}
	y, e := s.Primal(numbers)
	z, f := s.Lift(numbers)
	if e != api.OK || f != api.OK || !slices.EqualFunc(y, back(m, gone, x, false), sameRat) || !slices.EqualFunc(z, back(m, gone, d, true), sameRat) {
		t.Fatalf("P21.2: of %v: Primal and Lift of %v: %v, %d and %v, %d", m, numbers, y, e, z, f)
	}
	if a, b, n, k := s.Size(); a != len(m.Cols) || b != len(m.Rows) || n != len(r.Cols) || k != len(r.Rows) || s.Tightened() {
		t.Fatalf("P17.1: of %v: Size = %d, %d, %d, %d", m, a, b, n, k)
	}
	return len(gone)
}

// bare: nothing stands beside the kind.
func bare(o api.Outcome) bool {
	return len(o.D)+len(o.Cert.RowLo)+len(o.Cert.RowHi)+len(o.Cert.ColLo)+len(o.Cert.ColHi) == 0
}

// A count is how often each thing was tried.
type count map[string]int

// tally counts what was known of a model that was left.
func (c count) tally(k trial.Known) {
	c["points"] += len(k.Points)
	c["directions"] += len(k.Dirs)
	c["KKT points"] += len(k.Kkts)
	c["bases"] += len(k.Bases)
	c["certificates"] += len(k.Certs)
}

// check: was each thing tried often enough for the test to mean something?
func (c count) check(t *testing.T, least int) {
	t.Helper()
	for _, name := range []string{"points", "directions", "KKT points", "bases", "certificates", "steps"} {
		if c[name] < least {
			t.Errorf("only %d %s were tried", c[name], name)
		}
	}
}

// checkBoth: the way there, and the way back from all that is known of what is left.
func (c count) checkBoth(t *testing.T, m api.Model) {
	t.Helper()
	steps := checkSweep(t, m)
	k, _, fault := trial.Way(m, pairup.Sweep)
	if fault != "" {
		t.Fatalf("P21.2: of %v: %s", m, fault)
	}
	if steps > 0 {
		c["steps"] += steps
		c.tally(k)
	}
}

// TestExamples: that of the chapter, and equations of each kind, beside rows that are none of two terms.
func TestExamples(t *testing.T) {
	for _, c := range []struct{ from, to string }{
		{"min 0 / col x 1 0 4 / col y 0 -inf inf / row r 0 0 1 x -2 y", "min 0 / col y 2 0 2"},
		{"min 0 / col x 1 0 4 / col y 3 -1 9 / row r 6 6 2 x 3 y", "min 3 / col y 3/2 -2/3 2"},
		// j's bounds: infinite, and on one side.
		{"min 0 / col x 0 -inf inf / col y 0 1 2 / row r 1 1 1 x 1 y", "min 0 / col y 0 1 2"},
		{"min 0 / col x 0 0 inf / col y 0 -inf inf / row r 1 1 1 x 1 y", "min 0 / col y 0 -inf 1"},
		{"min 0 / col x 0 0 inf / col y 0 -inf inf / row r 1 1 1 x -1 y", "min 0 / col y 0 -1 inf"},
		{"min 0 / col x 0 -inf 0 / col y 0 -inf inf / row r 1 1 -1 x -1 y", "min 0 / col y 0 -1 inf"},
		{"min 0 / col x 0 -inf 0 / col y 0 -inf inf / row r 1 1 -1 x 1 y", "min 0 / col y 0 -inf 1"},
		{"min 0 / col x 1 4 3 / col y 0 0 9 / row r 0 0 1 x -1 y", "min 0 / col y 1 4 3"},
		{"min 0 / col x 1 4 3 / col y 0 0 9 / row r 1 1 1 x 1 y", "min 1 / col y -1 0 -3"},
		{"min 0 / col x 1 0 3 / col y 0 9 0 / row r 0 0 1 x -1 y", "min 0 / col y 1 9 0"},
		{"min 0 / col x 1 2 2 / col y 0 0 9 / row r 4 4 1 x 1 y", "min 4 / col y -1 2 2"},
		{"min 0 / col x 1 2 2 / col y 0 3 9 / row r 4 4 1 x 1 y", "min 4 / col y -1 3 2"},
		// Other rows: of j alone, of k alone, of both, such that k's term vanishes, of neither; ahead of the equation and behind it.
		{"min 5 / col x 2 -inf inf / col y 1 -inf inf / col z 1 0 1 / row a 1 2 3 x / row b 1 2 3 y / row c -inf 2 1 x 1 y 1 z / row r 4 4 2 x -1 y / row d 3 inf -4 x 2 y / row e 0 1 1 z / row f -inf inf 1 x",
			"min 9 / col y 2 -inf inf / col z 1 0 1 / row a -5 -4 3/2 y / row b 1 2 3 y / row c -inf 0 3/2 y 1 z / row d 11 inf / row e 0 1 1 z / row f -inf inf 1/2 y"},
		// Equations of one term and of three, rows of two terms that are none.
		{"min 0 / col x 1 0 1 / col y 1 0 1 / col z 1 0 1 / row a 1 1 1 x / row b 1 1 1 x 1 y 1 z / row c 1 2 1 x 1 y / row d -inf 1 1 x 1 y / row e 1 inf 1 x 1 y / row f -inf inf 1 x 1 y / row g 1 0 1 x 1 y / row h 0 0",
			"min 0 / col x 1 0 1 / col y 1 0 1 / col z 1 0 1 / row a 1 1 1 x / row b 1 1 1 x 1 y 1 z / row c 1 2 1 x 1 y / row d -inf 1 1 x 1 y / row e 1 inf 1 x 1 y / row f -inf inf 1 x 1 y / row g 1 0 1 x 1 y / row h 0 0"},
		// The columns' order in the model counts, not the one in which they are named or first seen.
		{"min 0 / col x 1 0 5 / col y 0 0 7 / col z 0 0 3 / row r 2 2 1 x 2 z", "min 2 / col y 0 0 7 / col z -2 0 1"},
		// Several: in common columns, one behind the other.
		{"min 0 / col x 1 0 9 / col y 0 0 9 / col z 0 0 9 / row r 0 0 1 x -1 y / row q 3 3 1 y 1 z", "min 3 / col z -1 0 3"},
		{"min 0 / col x 1 0 9 / col y 0 0 9 / col z 0 0 9 / row r 0 0 1 y -1 z / row q 3 3 1 x 1 y", "min 3 / col z -1 0 3"},
		{"min 0 / col x 1 0 9 / col y 0 0 9 / col z 0 0 9 / row r 0 0 1 x -1 y / row q 3 3 1 x 1 z", "min 3 / col z -1 0 3"},
		// Three terms become two, and those go too; ahead of the step they are not seen again.
		{"min 0 / col x 0 0 9 / col y 0 0 9 / col z 0 0 9 / row r 1 1 1 x 1 y / row q 3 3 1 x 1 y 1 z / row p 2 2 2 x 1 y 1 z", "min 0 / col z 0 0 1 / row q 2 2 1 z"},
		{"min 0 / col x 0 0 9 / col y 0 0 9 / col z 0 0 9 / row p 2 2 2 x 1 y 1 z / row r 1 1 1 x 1 y", "min 0 / col y 0 0 1 / col z 0 0 9 / row p 0 0 -1 y 1 z"},
		// Two terms become one, and none: of these nothing is asked.
		{"min 0 / col x 0 0 9 / col y 0 0 9 / row r 1 1 1 x 1 y / row q 0 0 1 x -1 y / row p 2 2 2 x 2 y / row o 3 3 2 x 2 y", "min 0 / col y 0 0 1 / row q -1 -1 -2 y / row p 0 0 / row o 1 1"},
		// A row that is no equation becomes none.
		{"min 0 / col x 0 0 9 / col y 0 0 9 / col z 0 0 9 / row r 1 1 1 x 1 y / row q 0 1 1 x 1 y 1 z", "min 0 / col y 0 0 1 / col z 0 0 9 / row q -1 0 1 z"},
		{"min 0", "min 0"},
	} {
		m := read(t, c.from)
		r, o, e := pairup.Sweep(m, fresh(m))
		if same, f := model.Equal(r, read(t, c.to)); e != api.OK || f != api.OK || !same || o.Kind != api.Went {
			t.Errorf("P21.1: of %s: %v, %d, %d", c.from, r, o.Kind, e)
		}
		count{}.checkBoth(t, m)
	}
}

// bounds: pairs of each kind; some are alike, or become so by an equation; one number twice; crossed.
func bounds() [][2]api.Ext {
	var out [][2]api.Ext
	for _, lo := range []api.Ext{sample.Low(), sample.At(-2), sample.At(0), sample.At(1)} {
		for _, hi := range []api.Ext{sample.High(), sample.At(0), sample.At(1), sample.At(2)} {
			out = append(out, [2]api.Ext{lo, hi})
		}
	}
	return out
}

// one: a model of two columns with these bounds and an equation of both.
func one(j, k [2]api.Ext, a, b api.Rat, r, costJ, costK int) api.Model {
	return api.Model{Offset: sample.Frac(1, 2), Cols: []api.Col{sample.Col("x", costJ, j[0], j[1]), sample.Col("y", costK, k[0], k[1])}, Rows: []api.Row{
		{Name: "r", Lo: sample.At(r), Hi: sample.At(r), Terms: []api.Term{{Col: 0, A: a}, {Col: 1, A: b}}},
	}}
}

// signs: a and b of either sign, of one size and of others.
func signs() [][2]api.Rat {
	var out [][2]api.Rat
	for _, a := range []int{1, -1} {
		for _, b := range []int{1, -1} {
			out = append(out, [2]api.Rat{sample.Frac(a, 1), sample.Frac(b, 1)}, [2]api.Rat{sample.Frac(2*a, 1), sample.Frac(b, 3)})
		}
	}
	return out
}

// TestOnePair: both columns with each pair of bounds, so that the ends are stricter than the own ones, looser and alike; coefficients of either sign; r at 0, above and below; costs of each sign.
func TestOnePair(t *testing.T) {
	c := count{}
	for _, j := range bounds() {
		for _, k := range bounds() {
			for i, ab := range signs() {
				for r := -1; r <= 1; r++ {
					c.checkBoth(t, one(j, k, ab[0], ab[1], r, (i+r+3)%3-1, i%3-1))
				}
			}
		}
	}
	c.check(t, 2000)
}

// TestOtherRows: a row beside the equation, with bounds of each kind, ahead of it or behind it: with terms of j alone, of k alone, of both, such that k's vanishes or not.
func TestOtherRows(t *testing.T) {
	c := count{}
	pairs := bounds()
	for i, j := range pairs {
		for l, b := range pairs {
			for kind := range 5 {
				k := pairs[(3*i+5*l+kind)%len(pairs)]
				ab := signs()[(i+l+kind)%len(signs())]
				m := one(j, k, ab[0], ab[1], (i+l)%3-1, (i+kind)%3-1, (l+kind)%3-1)
				row := api.Row{Name: "q", Lo: b[0], Hi: b[1]}
				x, y := api.Term{Col: 0, A: sample.Frac(1+i%2, 1-2*(l%2))}, sample.Term(1, 1)
				switch kind {
				case 0:
					row.Terms = []api.Term{x}
				case 1:
					row.Terms = []api.Term{y}
				case 2:
					row.Terms = []api.Term{x, y}
				case 3:
					half := big.NewRat(-1, 2)
					row.Terms = []api.Term{{Col: 0, A: fromBig(product(half, toBig(ab[0])))}, {Col: 1, A: fromBig(product(half, toBig(ab[1])))}}
				}
				m.Rows = slices.Insert(m.Rows, (i+l)%2, row)
				c.checkBoth(t, m)
			}
		}
	}
	c.check(t, 500)
}

// TestChain: equations one behind the other on columns in common, each of two terms from the beginning or only by the step ahead.
func TestChain(t *testing.T) {
	c := count{}
	pairs := bounds()
	for seed := range 600 {
		at := func(n int) [2]api.Ext { return pairs[(seed*n+seed/len(pairs))%len(pairs)] }
		m := api.Model{Offset: sample.Frac(0, 1)}
		for i, b := range [][2]api.Ext{at(3), at(5), at(7), at(11)} {
			m.Cols = append(m.Cols, sample.Col("x"+strconv.Itoa(i), (seed+i)%3-1, b[0], b[1]))
		}
		sign := func(n int) int { return 1 - seed>>n%2*2 }
		equation := func(name string, r int, terms ...api.Term) api.Row {
			return sample.Row(name, sample.At(r), sample.At(r), terms...)
		}
		switch seed % 4 {
		case 0:
			m.Rows = []api.Row{equation("a", sign(2), sample.Term(0, 1), sample.Term(1, sign(3))), equation("b", 0, sample.Term(1, 2), sample.Term(2, sign(4))), equation("c", 1, sample.Term(2, 1), sample.Term(3, -1))}
		case 1:
			m.Rows = []api.Row{equation("a", sign(2), sample.Term(2, 1), sample.Term(3, sign(3))), equation("b", 0, sample.Term(0, 2), sample.Term(3, sign(4))), equation("c", 1, sample.Term(1, 1), sample.Term(3, -1))}
		case 2:
			m.Rows = []api.Row{equation("a", sign(2), sample.Term(0, 1), sample.Term(2, sign(3))), equation("b", 1, sample.Term(0, 1), sample.Term(1, sign(4)), sample.Term(2, sign(3))), equation("c", 1, sample.Term(0, 1), sample.Term(1, 1), sample.Term(3, sign(5)))}
		case 3:
			m.Rows = []api.Row{equation("a", sign(2), sample.Term(0, 1), sample.Term(1, sign(3))), equation("b", 1, sample.Term(0, 1), sample.Term(1, sign(4))), equation("c", 1, sample.Term(0, 1), sample.Term(2, sign(5)))}
		}
		c.checkBoth(t, m)
	}
	c.check(t, 300)
}

// TestDrawn: models with much to take out, swept once, and several times with the other passes between.
func TestDrawn(t *testing.T) {
	c := count{}
	for seed := range 2000 {
		m := sample.Prunable(seed)
		c.checkBoth(t, m)
		for _, way := range [][]trial.Sweep{
			{pairup.Sweep, single.Sweep, fixed.Sweep, pairup.Sweep, single.Sweep},
			{single.Sweep, pairup.Sweep, pairup.Sweep, fixed.Sweep, pairup.Sweep},
			{fixed.Sweep, pairup.Sweep, dominate.Sweep, single.Sweep, pairup.Sweep},
		} {
			k, _, fault := trial.Way(m, way...)
			if fault != "" {
				t.Fatalf("P21.2: of %v, with the others: %s", m, fault)
			}
			c.tally(k)
		}
	}
	c.check(t, 200)
	for seed := range 300 {
		c.checkBoth(t, sample.Mixed(seed))
		c.checkBoth(t, sample.Drawn(seed))
	}
	for _, m := range sample.Models() {
		c.checkBoth(t, m)
	}
}

// equations: a drawn model, most of whose rows are made equations of two terms, or of three.
func equations(seed int) api.Model {
	m := sample.Prunable(seed)
	n := len(m.Cols)
	for i := range m.Rows {
		r := &m.Rows[i]
		if n < 2 || (seed+i)%4 == 0 {
			continue
		}
		if r.Lo.Inf != 0 {
			r.Lo = sample.At(seed%3 - 1)
		}
		r.Hi = r.Lo
		first, second := (seed+i)%n, (seed+i+1+seed/7%(n-1))%n
		r.Terms = []api.Term{sample.Term(min(first, second), 1-2*(seed/2%2)), sample.Term(max(first, second), 1-2*(seed/4%2))}
		if third := max(first, second) + 1; third < n && seed%5 == 0 {
			r.Terms = append(r.Terms, sample.Term(third, 1))
		}
	}
	return m
}

// TestEquations: with one sweep, and with several.
func TestEquations(t *testing.T) {
	c := count{}
	for seed := range 1500 {
		m := equations(seed)
		c.checkBoth(t, m)
		k, _, fault := trial.Way(m, pairup.Sweep, dominate.Sweep, single.Sweep, fixed.Sweep, pairup.Sweep)
		if fault != "" {
			t.Fatalf("P21.2: of %v, with the others: %s", m, fault)
		}
		c.tally(k)
	}
	c.check(t, 500)
}

// chain: as many columns and rows as may be: an equation of each column with the next one, whose coefficients are those of size, and rows between them in which all columns stand.
func chain(wide int, size func(i int) *big.Rat) api.Model {
	m := api.Model{Offset: sample.Frac(0, 1)}
	for i := range api.MaxCols {
		m.Cols = append(m.Cols, sample.Col("x"+strconv.Itoa(i), i%5-2, sample.At(-1000-i), sample.At(1000+i)))
	}
	for i := range api.MaxRows - wide {
		if i+1 < api.MaxCols {
			terms := []api.Term{{Col: i, A: fromBig(size(i))}, sample.Term(i+1, 1-2*(i%2))}
			m.Rows = append(m.Rows, api.Row{Name: "r" + strconv.Itoa(i), Lo: sample.At(i%3 - 1), Hi: sample.At(i%3 - 1), Terms: terms})
		}
	}
	for i := range wide {
		r := sample.Row("w"+strconv.Itoa(i), sample.Low(), sample.At(1<<40))
		for col := range api.MaxCols {
			r.Terms = append(r.Terms, sample.Term(col, 1+(col+i)%2))
		}
		m.Rows = slices.Insert(m.Rows, i*7, r)
	}
	return m
}

// TestFull: a chain of as many equations as may be, from its beginning and from its end.
func TestFull(t *testing.T) {
	long := func(i int) *big.Rat {
		return new(big.Rat).SetFrac(new(big.Int).Add(new(big.Int).Lsh(big.NewInt(1), uint(3*i)), big.NewInt(1)), big.NewInt(3))
	}
	short := func(i int) *big.Rat { return big.NewRat(int64(1-i/3%2*2), 1) }
	for _, backward := range []bool{false, true} {
		for _, wide := range []int{1, 4} {
			for i, size := range []func(i int) *big.Rat{long, short} {
				m := chain(wide, size)
				if backward {
					slices.Reverse(m.Rows)
				}
				if n := checkSweep(t, m); n != api.MaxRows-wide {
					t.Errorf("P21.1: %d columns went", n)
				}
				if i == 1 {
					count{}.checkBoth(t, m)
				}
			}
		}
	}
}
