package simplex_test

import (
	"math/big"
	"strconv"
	"testing"

	"tableau/api"
	"tableau/sample"
	"tableau/simplex"
)

// checkKnown: as checkSolve, but of large models it is not asked by the definitions what the answer shows, which takes long, but by Judge alone.
func checkKnown(t *testing.T, name string, m api.Model, want wanted, hints ...api.Basis) {
	t.Helper()
	for _, b := range append(hints, api.Basis{}) {
		a, e := simplex.From(m, b)
		if len(m.Rows) < 20 {
			checkAnswer(t, name, m, a, e, want)
			continue
		}
		is, f := simplex.Judge(m, a)
		if e != api.OK || f != api.OK || !is || a.Status != want.status || a.Status == api.Optimal && !sameRat(a.Value, number(want.value)) {
			t.Errorf("P16.2: %s of %d columns and %d rows: %v, %d, want %v; judged %v, %d", name, len(m.Cols), len(m.Rows), a, e, want, is, f)
		}
	}
}

func leastAt(m api.Model, x []api.Rat) wanted { return least(valueOf(m, x).RatString()) }

// TestKnown: models that were made with an optimal basis, with a KKT point, with a certificate, or with a ray, the largest among them.
func TestKnown(t *testing.T) {
	for _, k := range sample.Bases() {
		checkKnown(t, "an optimal basis", k.M, leastAt(k.M, k.P.X), k.B, slackOf(k.M))
	}
	for _, k := range sample.Kkts() {
		checkKnown(t, "a KKT point", k.M, leastAt(k.M, k.P.X))
	}
	for _, k := range sample.Certs() {
		checkKnown(t, "a certificate", k.M, noPoint())
	}
	for _, k := range sample.Rays() {
		checkKnown(t, "a ray", k.M, noLeast())
	}
}

// A tally counts the answers by their status.
type tally [4]int

// check: does the answer of Solve show itself by the definitions? (There is no second status that could.)
func (c *tally) check(t *testing.T, name string, m api.Model) {
	t.Helper()
	a, e := simplex.Solve(m)
	if a.Status < 1 || a.Status > 3 {
		t.Errorf("P16.2: %s: %v, %d: %v", name, a, e, m)
		return
	}
	c[a.Status]++
	want := wanted{status: a.Status}
	if a.Status == api.Optimal {
		want = leastAt(m, a.Point.X)
	}
	checkAnswer(t, name, m, a, e, want)
}

// TestMixed: models drawn with bounds of all kinds, at which many bounds are met at once.
func TestMixed(t *testing.T) {
	var c tally
	for seed := range 2000 {
		c.check(t, "a drawn model", sample.Mixed(seed))
	}
	if c[api.Optimal] < 300 || c[api.Infeasible] < 300 || c[api.Unbounded] < 300 {
		t.Errorf("%v: too few are tried", c)
	}
}

// TestModels: well-formed models of each kind, those with crossed bounds too.
func TestModels(t *testing.T) {
	var c tally
	for _, m := range sample.Models() {
		c.check(t, "a model", m)
	}
	for seed := range 500 {
		c.check(t, "a drawn model", sample.Drawn(seed))
	}
	if c[api.Optimal] < 50 || c[api.Infeasible] < 100 || c[api.Unbounded] < 50 {
		t.Errorf("%v: too few are tried", c)
	}
}

// power: a to the n.
func power(a int64, n int) *big.Rat {
	return new(big.Rat).SetInt(new(big.Int).Exp(big.NewInt(a), big.NewInt(int64(n)), nil))
}

// TestCube: a cube of 64 sides, bent so that a search which always takes the greatest share would come by each of its 2^64 corners (Klee's and Minty's).
func TestCube(t *testing.T) {
	for _, n := range []int{1, 2, 3, 7, api.MaxCols} {
		m := api.Model{Offset: sample.Frac(0, 1)}
		for j := range n {
			cost := power(2, n-1-j)
			m.Cols = append(m.Cols, api.Col{Name: "x" + strconv.Itoa(j), Cost: fromBig(cost.Neg(cost)), Lo: sample.At(0), Hi: sample.High()})
			r := api.Row{Name: "r" + strconv.Itoa(j), Lo: sample.Low(), Hi: api.Ext{V: fromBig(power(5, j+1))}}
			for k := range j {
				r.Terms = append(r.Terms, api.Term{Col: k, A: fromBig(power(2, j-k+1))})
			}
			r.Terms = append(r.Terms, sample.Term(j, 1))
			m.Rows = append(m.Rows, r)
		}
		value := power(5, n)
		checkKnown(t, "a bent cube", m, least(value.Neg(value).RatString()))
	}
}

// TestAssign: each of eight is to have one of eight, all of whose costs are sums but for some on the diagonal; each corner meets far more bounds than there are columns.
func TestAssign(t *testing.T) {
	m, n := api.Model{Offset: sample.Frac(0, 1)}, 8
	for i := range n {
		for j := range n {
			cost := i*i + 3*j
			if i == j {
				cost -= i
			}
			m.Cols = append(m.Cols, sample.Col("x"+strconv.Itoa(i)+"_"+strconv.Itoa(j), cost, sample.At(0), sample.At(1)))
		}
	}
	one := sample.At
	for i := range n {
		var across, down []api.Term
		for j := range n {
			across, down = append(across, sample.Term(i*n+j, 1)), append(down, sample.Term(j*n+i, 1))
		}
		m.Rows = append(m.Rows, sample.Row("a"+strconv.Itoa(i), one(1), one(1), across...), sample.Row("d"+strconv.Itoa(i), one(1), one(1), down...))
	}
	checkSolve(t, "each has one", m, least("196"))
	m.Rows[0].Hi, m.Rows[0].Lo = sample.At(2), sample.At(2)
	checkSolve(t, "one has two", m, noPoint())
}

// TestCone: all rows but one meet at 0, where a search stays long, and no rule is left unused.
func TestCone(t *testing.T) {
	for seed := range 5 {
		m := api.Model{Offset: sample.Frac(0, 1)}
		n, k := 12+seed, 14-seed
		state := uint64(seed)*77 + 5
		next := func() int {
			state = state*6364136223846793005 + 1442695040888963407
			return int(state>>33)%9 - 4
		}
		var total []api.Term
		for j := range n {
			m.Cols = append(m.Cols, sample.Col("x"+strconv.Itoa(j), next(), sample.At(0), sample.High()))
			total = append(total, sample.Term(j, 1))
		}
		for i := range k {
			r := sample.Row("r"+strconv.Itoa(i), sample.Low(), sample.At(0))
			for j := range n {
				if a := next(); a != 0 {
					r.Terms = append(r.Terms, sample.Term(j, a))
				}
			}
			m.Rows = append(m.Rows, r)
		}
		m.Rows = append(m.Rows, sample.Row("total", sample.Low(), sample.At(1), total...))
		var c tally
		c.check(t, "a cone", m)
		if c[api.Optimal] != 1 {
			t.Errorf("a cone with a bounded top is not optimal: %v", m)
		}
	}
}

// TestAlike: two calls with the same arguments answer alike.
func TestAlike(t *testing.T) {
	for seed := range 200 {
		m := sample.Mixed(seed)
		a, _ := simplex.Solve(m)
		b, _ := simplex.Solve(m)
		if !sameAnswer(a, b) {
			t.Errorf("P2: Solve of %v: %v, then %v", m, a, b)
		}
		c, _ := simplex.From(m, a.Basis)
		d, _ := simplex.From(m, b.Basis)
		if !sameAnswer(c, d) {
			t.Errorf("P2: From of %v: %v, then %v", m, c, d)
		}
	}
}
