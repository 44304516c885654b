package subst_test

import (
	"math/big"
	"slices"
	"strconv"
	"testing"

	"tableau/api"
	"tableau/dominate"
	"tableau/fixed"
	"tableau/model"
	"tableau/pairup"
	"tableau/sample"
	"tableau/single"
	"tableau/subst"
	"tableau/trial"
	"tableau/twin"
)

// checkSweep: the model that is left and the numbers of the columns are those that the chapter says. It answers how many columns went.
func checkSweep(t *testing.T, m api.Model) int {
	t.Helper()
	s := fresh(m)
	r, o, e := subst.Sweep(m, s)
	want, list := swept(m)
	if same, f := model.Equal(r, want); e != api.OK || f != api.OK || !same || o.Kind != api.Went || !bare(o) {
		t.Fatalf("P22.1: of %v: %v, %v, %d, want %v", m, r, o, e, want)
	}
	x, d := map[string]*big.Rat{}, map[string]*big.Rat{}
	var numbers []api.Rat
	for place, c := range r.Cols {
		numbers = append(numbers, sample.Frac(5*place-2, 3))
		x[c.Name], d[c.Name] = toBig(numbers[place]), toBig(numbers[place])
	}
	y, e := s.Primal(numbers)
	z, f := s.Lift(numbers)
	if e != api.OK || f != api.OK || !slices.EqualFunc(y, back(m, list, x, false), sameRat) || !slices.EqualFunc(z, back(m, list, d, true), sameRat) {
		t.Fatalf("P22.2: of %v: Primal and Lift of %v: %v, %d and %v, %d", m, numbers, y, e, z, f)
	}
	if a, b, n, k := s.Size(); a != len(m.Cols) || b != len(m.Rows) || n != len(r.Cols) || k != len(r.Rows) || s.Tightened() {
		t.Fatalf("P17.1: of %v: Size = %d, %d, %d, %d", m, a, b, n, k)
	}
	return len(list)
}

// bare: nothing stands beside the kind.
func bare(o api.Outcome) bool {
	return len(o.D)+len(o.Cert.RowLo)+len(o.Cert.RowHi)+len(o.Cert.ColLo)+len(o.Cert.ColHi) == 0
}

// A count is how often each thing was tried.
type count map[string]int

// tally counts what was known of a model that was left.
func (c count) tally(k trial.Known) {
	c["points"] += len(k.Points)
	c["directions"] += len(k.Dirs)
	c["KKT points"] += len(k.Kkts)
	c["bases"] += len(k.Bases)
	c["certificates"] += len(k.Certs)
}

// check: was each thing tried often enough for the test to mean something?
func (c count) check(t *testing.T, least int) {
	t.Helper()
	for _, name := range []string{"points", "directions", "KKT points", "bases", "certificates", "steps"} {
		if c[name] < least {
			t.Errorf("only %d %s were tried", c[name], name)
		}
	}
}

// checkBoth: the way there, and the way back from all that is known of what is left.
func (c count) checkBoth(t *testing.T, m api.Model) {
	t.Helper()
	steps := checkSweep(t, m)
	k, _, fault := trial.Way(m, subst.Sweep)
	if fault != "" {
		t.Fatalf("P22.2: of %v: %s", m, fault)
	}
	if steps > 0 {
		c["steps"] += steps
		c.tally(k)
	}
}

// TestExamples: those of the chapter, and equations of each kind, beside rows that are none and columns that are not free.
func TestExamples(t *testing.T) {
	for _, c := range []struct{ from, to string }{
		{"min 0 / col x 1 -inf inf / col y 1 0 inf / row r 0 0 1 x -2 y", "min 0 / col y 3 0 inf"},
		{"min 0 / col x 1 -inf inf / row r 2 2 3 x", "min 2/3"},
		{"min 0 / col x 0 -inf inf / row r 2 2 3 x", "min 0"},
		{"min 1 / col x -6 -inf inf / row r -2 -2 -3 x", "min -3"},
		// The free column is the first, a middle, the last of the terms; of several the first, by the columns' order.
		{"min 0 / col x 1 -inf inf / col y 2 0 1 / col z 3 0 1 / row r 4 4 2 x 1 y -3 z", "min 2 / col y 3/2 0 1 / col z 9/2 0 1"},
		{"min 0 / col y 2 0 1 / col x 1 -inf inf / col z 3 0 1 / row r 4 4 1 y 2 x -3 z", "min 2 / col y 3/2 0 1 / col z 9/2 0 1"},
		{"min 0 / col y 2 0 1 / col z 3 0 1 / col x 1 -inf inf / row r 4 4 1 y -3 z 2 x", "min 2 / col y 3/2 0 1 / col z 9/2 0 1"},
		{"min 0 / col x 1 0 1 / col y 2 -inf inf / col z 3 -inf inf / row r 4 4 1 x 1 y -2 z", "min 8 / col x -1 0 1 / col z 7 -inf inf"},
		{"min 0 / col z 3 -inf inf / col x 1 0 1 / col y 2 -inf inf / row r 4 4 -2 z 1 x 1 y", "min -6 / col x 5/2 0 1 / col y 7/2 -inf inf"},
		// One infinite bound alone, crossed bounds, one number, are not free; nor are rows of other bounds equations.
		{"min 0 / col x 1 -inf 5 / col y 1 0 inf / col z 1 2 1 / col w 1 3 3 / row r 0 0 1 x -2 y 1 z 1 w", "min 0 / col x 1 -inf 5 / col y 1 0 inf / col z 1 2 1 / col w 1 3 3 / row r 0 0 1 x -2 y 1 z 1 w"},
		{"min 0 / col x 1 -inf inf / row a 1 2 1 x / row b -inf 1 1 x / row c 1 inf 1 x / row d -inf inf 1 x / row e 1 0 1 x / row f 0 0", "min 0 / col x 1 -inf inf / row a 1 2 1 x / row b -inf 1 1 x / row c 1 inf 1 x / row d -inf inf 1 x / row e 1 0 1 x / row f 0 0"},
		// A free column that stands in other rows than the equation.
		{"min 0 / col x 1 -inf inf / col y 1 0 1 / row r 1 1 1 y / row q 0 2 1 x", "min 0 / col x 1 -inf inf / col y 1 0 1 / row r 1 1 1 y / row q 0 2 1 x"},
		// Other rows: of j alone, of the others alone, of both, such that terms vanish, of neither; ahead of the equation and behind it.
		{"min 0 / col a 1 0 1 / col x 2 -inf inf / col y 1 0 3 / row s 0 9 1 a 1 x / row r 4 4 1 a 2 x 1 y", "min 4 / col a 0 0 1 / col y 0 0 3 / row s -2 7 1/2 a -1/2 y"},
		{"min 5 / col x 2 -inf inf / col y 1 -inf 1 / col z 1 0 1 / row a 1 2 3 x / row b 1 2 3 y / row c -inf 2 1 x 1 y 1 z / row r 4 4 2 x -1 y / row d 3 inf -4 x 2 y / row e 0 1 1 z / row f -inf inf 1 x",
			"min 9 / col y 2 -inf 1 / col z 1 0 1 / row a -5 -4 3/2 y / row b 1 2 3 y / row c -inf 0 3/2 y 1 z / row d 11 inf / row e 0 1 1 z / row f -inf inf 1/2 y"},
		// The equation's number is 0, or the cost: then nothing moves.
		{"min 7 / col x 5 -inf inf / col y 0 0 1 / row r 0 0 1 x 1 y / row q 1 2 1 x", "min 7 / col y -5 0 1 / row q 1 2 -1 y"},
		{"min 7 / col x 0 -inf inf / col y 3 0 1 / row r 6 6 1 x 1 y / row q 1 2 1 x", "min 7 / col y 3 0 1 / row q -5 -4 -1 y"},
		// Several, one behind the other: the second one's free column is told, too.
		{"min 0 / col x 1 -inf inf / col y 0 -inf inf / col z 0 0 9 / row r 0 0 1 x -1 y / row q 3 3 1 y 1 z", "min 3 / col z -1 0 9"},
		{"min 0 / col x 1 -inf inf / col y 0 -inf inf / col z 0 0 9 / row r 0 0 1 y -1 z / row q 3 3 1 x 1 y", "min 3 / col z -1 0 9"},
		{"min 0 / col x 1 -inf inf / col y 0 0 9 / col z 0 0 9 / row r 0 0 1 x -1 y / row q 3 3 1 x 1 z", "min 0 / col y 1 0 9 / col z 0 0 9 / row q 3 3 1 y 1 z"},
		// A row gets a free column's term by the step ahead of it, or loses it.
		{"min 0 / col x 0 -inf inf / col y 0 -inf inf / col z 0 0 9 / row r 1 1 1 x 1 y / row q 2 2 1 x 1 z", "min 0 / col z 0 0 9"},
		{"min 0 / col x 0 -inf inf / col y 1 -inf inf / col z 0 0 9 / row r 1 1 1 x 1 y / row q 2 2 1 x 1 y 1 z", "min 0 / col y 1 -inf inf / col z 0 0 9 / row q 1 1 1 z"},
		// Ahead of the step it is not seen again: no sweep goes back.
		{"min 0 / col w 0 -inf inf / col x 0 -inf inf / col z 0 0 9 / row q 0 1 1 w 1 z / row r 1 1 1 w 1 x", "min 0 / col x 0 -inf inf / col z 0 0 9 / row q -1 0 -1 x 1 z"},
		// One equation twice, and against itself.
		{"min 0 / col x 0 -inf inf / col y 0 0 9 / row r 1 1 1 x 1 y / row q 2 2 2 x 2 y / row p 3 3 2 x 2 y", "min 0 / col y 0 0 9 / row q 0 0 / row p 1 1"},
		{"min 0", "min 0"},
	} {
		m := read(t, c.from)
		r, o, e := subst.Sweep(m, fresh(m))
		if same, f := model.Equal(r, read(t, c.to)); e != api.OK || f != api.OK || !same || o.Kind != api.Went {
			t.Errorf("P22.1: of %s: %v, %d, %d", c.from, r, o.Kind, e)
		}
		count{}.checkBoth(t, m)
	}
}

// TestTold: the numbers that the chapter says, and their directions.
func TestTold(t *testing.T) {
	for _, c := range []struct {
		from    string
		x, y, z []api.Rat // of the columns that are left; of all: by Primal, by Lift
	}{
		{"min 0 / col x 1 -inf inf / row r 2 2 3 x", nil, []api.Rat{sample.Frac(2, 3)}, []api.Rat{sample.Frac(0, 1)}},
		{"min 0 / col x 1 -inf inf / col y 1 0 inf / row r 0 0 1 x -2 y", numbers(5), numbers(10, 5), numbers(10, 5)},
		{"min 0 / col y 1 0 inf / col x 1 -inf inf / col z 1 0 1 / row r 7 7 3 y -2 x 5 z", numbers(1, 2), numbers(1, 3, 2), []api.Rat{sample.Frac(1, 1), sample.Frac(13, 2), sample.Frac(2, 1)}},
		// y is 3 - z; x is y: 3 - z, too.
		{"min 0 / col x 1 -inf inf / col y 0 -inf inf / col z 0 0 9 / row r 0 0 1 x -1 y / row q 3 3 1 y 1 z", numbers(1), numbers(2, 2, 1), numbers(-1, -1, 1)},
	} {
		m := read(t, c.from)
		s := fresh(m)
		subst.Sweep(m, s)
		y, e := s.Primal(c.x)
		z, f := s.Lift(c.x)
		if e != api.OK || f != api.OK || !slices.EqualFunc(y, c.y, sameRat) || !slices.EqualFunc(z, c.z, sameRat) {
			t.Errorf("P22.2: of %s: %v, %d and %v, %d", c.from, y, e, z, f)
		}
	}
}

func numbers(list ...int) []api.Rat {
	var out []api.Rat
	for _, n := range list {
		out = append(out, sample.Frac(n, 1))
	}
	return out
}

// bounds: pairs of each kind; one number twice; crossed.
func bounds() [][2]api.Ext {
	var out [][2]api.Ext
	for _, lo := range []api.Ext{sample.Low(), sample.At(-2), sample.At(0), sample.At(1)} {
		for _, hi := range []api.Ext{sample.High(), sample.At(0), sample.At(1), sample.At(2)} {
			out = append(out, [2]api.Ext{lo, hi})
		}
	}
	return out
}

// one: a model of an equation of so many columns, of which the one at that place is free, if its bounds aren't among these: they are those of the others, in turn.
func one(terms, free, sign, r, cost int, others ...[2]api.Ext) api.Model {
	m := api.Model{Offset: sample.Frac(1, 2)}
	row := api.Row{Name: "r", Lo: sample.At(r), Hi: sample.At(r)}
	for col := range terms {
		b, a := others[col%len(others)], sample.Frac(1-2*(col%2), 1+col%3)
		if col == free {
			b, a = [2]api.Ext{sample.Low(), sample.High()}, sample.Frac(2*sign, 3)
		}
		m.Cols = append(m.Cols, sample.Col("x"+strconv.Itoa(col), (cost+2*col)%3-1, b[0], b[1]))
		row.Terms = append(row.Terms, api.Term{Col: col, A: a})
	}
	m.Rows = []api.Row{row}
	return m
}

// TestOneEquation: of one term up to five, the free column each of them, or none; the others of each kind of bounds; its coefficient of either sign; r at 0, above and below; costs of each sign.
func TestOneEquation(t *testing.T) {
	c := count{}
	pairs := bounds()
	for terms := 1; terms <= 5; terms++ {
		for free := range terms + 1 {
			for i, b := range pairs {
				for turn := 0; turn < 18; turn += 1 + terms/4*4 {
					c.checkBoth(t, one(terms, free, 1-2*(turn%2), turn/2%3-1, turn/6+i%3, b, pairs[(3*i+5*turn+1)%len(pairs)]))
				}
			}
		}
	}
	c.check(t, 400)
}

// TestOtherRows: a row beside the equation, with bounds of each kind, ahead of it or behind it: with terms of j alone, of the others alone, of both, such that one of the terms vanishes, or all of them, and without terms.
func TestOtherRows(t *testing.T) {
	c := count{}
	pairs := bounds()
	for i, b := range pairs {
		for l, k := range pairs {
			for kind := range 7 {
				free := (i + l + kind) % 3
				m := one(3, free, 1-2*(kind%2), (i+l)%3-1, i+kind, k, pairs[(3*i+5*l+kind)%len(pairs)])
				x := make([]*big.Rat, 3)
				for col := range x {
					x[col] = new(big.Rat)
				}
				equation, half := dense(m.Rows[0].Terms, 3), big.NewRat(-1, 2)
				next, last := (free+1)%3, (free+2)%3
				switch kind {
				case 0:
					x[free] = big.NewRat(3, 1)
				case 1:
					x[next], x[last] = big.NewRat(1, 1), big.NewRat(-1, 1)
				case 2:
					x[free], x[next], x[last] = big.NewRat(1, 1), big.NewRat(1, 1), big.NewRat(-1, 1)
				case 3:
					x[free], x[next] = product(half, equation[free]), product(half, equation[next])
				case 4:
					for col := range x {
						x[col] = product(half, equation[col])
					}
				case 5:
					x[free], x[next], x[last] = product(half, equation[free]), product(half, equation[next]), big.NewRat(1, 1)
				}
				m.Rows = slices.Insert(m.Rows, (i+l)%2, api.Row{Name: "q", Lo: b[0], Hi: b[1], Terms: sparse(x)})
				c.checkBoth(t, m)
			}
		}
	}
	c.check(t, 1000)
}

// TestChain: equations one behind the other on columns in common, whose free columns stand in them from the beginning, come by a step ahead, or vanish by it.
func TestChain(t *testing.T) {
	c := count{}
	pairs := bounds()
	for seed := range 900 {
		at := func(n int) [2]api.Ext { return pairs[(seed*n+seed/len(pairs))%len(pairs)] }
		open := [2]api.Ext{sample.Low(), sample.High()}
		m := api.Model{Offset: sample.Frac(0, 1)}
		for i, b := range [][2]api.Ext{open, at(5), open, at(7)} {
			m.Cols = append(m.Cols, sample.Col("x"+strconv.Itoa(i), (seed+i)%3-1, b[0], b[1]))
		}
		sign := func(n int) int { return 1 - seed>>n%2*2 }
		equation := func(name string, r int, terms ...api.Term) api.Row {
			return sample.Row(name, sample.At(r), sample.At(r), terms...)
		}
		switch seed % 5 {
		case 0:
			m.Rows = []api.Row{equation("a", sign(2), sample.Term(0, 1), sample.Term(1, sign(3))), equation("b", 0, sample.Term(1, 2), sample.Term(2, sign(4))), equation("c", 1, sample.Term(2, 1), sample.Term(3, -1))}
		case 1:
			// b gets a term of x2 by a.
			m.Rows = []api.Row{equation("a", sign(2), sample.Term(0, 1), sample.Term(2, sign(3))), equation("b", 0, sample.Term(0, 2), sample.Term(1, sign(4))), equation("c", 1, sample.Term(1, 1), sample.Term(3, -1))}
		case 2:
			// b loses that of x2, and c both.
			m.Rows = []api.Row{equation("a", sign(2), sample.Term(0, 1), sample.Term(2, sign(3))), equation("b", 1, sample.Term(0, 1), sample.Term(1, sign(4)), sample.Term(2, sign(3))), equation("c", 1, sample.Term(0, 2), sample.Term(2, 2*sign(3)), sample.Term(3, sign(5)))}
		case 3:
			m.Rows = []api.Row{equation("a", sign(2), sample.Term(0, 1), sample.Term(1, 1), sample.Term(2, sign(3)), sample.Term(3, 2)), equation("b", 1, sample.Term(0, 1), sample.Term(2, -sign(3)), sample.Term(3, sign(4))), equation("c", 1, sample.Term(1, 1), sample.Term(3, sign(5)))}
		case 4:
			m.Rows = []api.Row{sample.Row("a", sample.At(-1), sample.High(), sample.Term(0, 1), sample.Term(1, sign(3))), equation("b", 1, sample.Term(0, sign(4)), sample.Term(2, 2)), equation("c", sign(5), sample.Term(0, 1), sample.Term(3, 1))}
		}
		c.checkBoth(t, m)
	}
	c.check(t, 300)
}

// ways: scripts in which the pass stands beside all the others.
func ways() [][]trial.Sweep {
	return [][]trial.Sweep{
		{subst.Sweep, single.Sweep, fixed.Sweep, subst.Sweep, pairup.Sweep},
		{single.Sweep, twin.Sweep, subst.Sweep, subst.Sweep, twin.Sweep, single.Sweep},
		{fixed.Sweep, subst.Sweep, dominate.Sweep, single.Sweep, subst.Sweep},
		{pairup.Sweep, subst.Sweep, twin.Sweep, pairup.Sweep, dominate.Sweep, subst.Sweep},
	}
}

// checkWays: several sweeps on one stack.
func (c count) checkWays(t *testing.T, m api.Model) {
	t.Helper()
	for i, way := range ways() {
		k, _, fault := trial.Way(m, way...)
		if fault != "" {
			t.Fatalf("P22.2: of %v, by script %d: %s", m, i, fault)
		}
		c.tally(k)
	}
}

// TestDrawn: models with much to take out, swept once, and several times with the other passes between.
func TestDrawn(t *testing.T) {
	c := count{}
	for seed := range 2000 {
		m := sample.Prunable(seed)
		c.checkBoth(t, m)
		if seed%2 == 0 {
			c.checkWays(t, m)
		}
	}
	c.check(t, 100)
	for seed := range 300 {
		c.checkBoth(t, sample.Mixed(seed))
		c.checkBoth(t, sample.Drawn(seed))
	}
	for _, m := range sample.Models() {
		c.checkBoth(t, m)
	}
}

// freed: a drawn model, most of whose rows are made equations, and many of whose columns are freed.
func freed(seed int) api.Model {
	m := sample.Prunable(seed)
	for i := range m.Rows {
		r := &m.Rows[i]
		if (seed+i)%4 == 0 {
			continue
		}
		if r.Lo.Inf != 0 {
			r.Lo = sample.At(seed%3 - 1)
		}
		r.Hi = r.Lo
	}
	for j := range m.Cols {
		if (seed/5+j)%3 != 0 {
			m.Cols[j].Lo, m.Cols[j].Hi = sample.Low(), sample.High()
		}
	}
	return m
}

// TestFreed: with one sweep, and with several.
func TestFreed(t *testing.T) {
	c := count{}
	for seed := range 1500 {
		m := freed(seed)
		c.checkBoth(t, m)
		c.checkWays(t, m)
	}
	c.check(t, 500)
}

// chain: as many columns and rows as may be: an equation of each column with the next ones, whose coefficients are those of size, and rows between them in which all columns stand. All columns but the last ones are free.
func chain(wide int, size func(i int) *big.Rat) api.Model {
	m := api.Model{Offset: sample.Frac(0, 1)}
	for i := range api.MaxCols {
		m.Cols = append(m.Cols, sample.Col("x"+strconv.Itoa(i), i%5-2, sample.Low(), sample.High()))
	}
	for i := api.MaxCols - wide; i < api.MaxCols; i++ {
		m.Cols[i].Lo, m.Cols[i].Hi = sample.At(-i), sample.At(i)
	}
	for i := range api.MaxRows - wide {
		r := api.Row{Name: "r" + strconv.Itoa(i), Lo: sample.At(i%3 - 1), Hi: sample.At(i%3 - 1)}
		for col := i; col < min(i+3, api.MaxCols); col++ {
			r.Terms = append(r.Terms, api.Term{Col: col, A: fromBig(size(col))})
		}
		m.Rows = append(m.Rows, r)
	}
	for i := range wide {
		r := sample.Row("w"+strconv.Itoa(i), sample.Low(), sample.At(1<<40))
		for col := range api.MaxCols {
			r.Terms = append(r.Terms, sample.Term(col, 1+(col+i)%2))
		}
		m.Rows = slices.Insert(m.Rows, i*7, r)
	}
	return m
}

// TestFull: a chain of as many equations as may be, from its beginning and from its end.
func TestFull(t *testing.T) {
	long := func(i int) *big.Rat {
		return new(big.Rat).SetFrac(new(big.Int).Add(new(big.Int).Lsh(big.NewInt(1), uint(3*i)), big.NewInt(1)), big.NewInt(3))
	}
	short := func(i int) *big.Rat { return big.NewRat(int64(1-i/3%2*2), 1) }
	for _, backward := range []bool{false, true} {
		for _, wide := range []int{1, 4} {
			for i, size := range []func(i int) *big.Rat{long, short} {
				m := chain(wide, size)
				if backward {
					slices.Reverse(m.Rows)
				}
				if n := checkSweep(t, m); n != api.MaxRows-wide {
					t.Errorf("P22.1: %d columns went", n)
				}
				if i == 1 {
					count{}.checkBoth(t, m)
				}
			}
		}
	}
}
