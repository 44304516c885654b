package post_test

import (
	"math/rand/v2"
	"slices"
	"strconv"
	"testing"

	"tableau/api"
	"tableau/post"
	"tableau/presolve"
	"tableau/sample"
	"tableau/simplex"
	"tableau/trial"
)

// busy: a drawn model with much to take out, of which something is left.
func busy(seed int) api.Model {
	m := sample.Prunable(seed)
	switch seed % 4 {
	case 1:
		// Most columns with both bounds, so that rows imply others.
		for j := range m.Cols {
			if m.Cols[j].Lo.Inf != 0 && (seed+j)%3 > 0 {
				m.Cols[j].Lo = sample.At(-3)
			}
			if m.Cols[j].Hi.Inf != 0 && (seed+j)%3 > 0 {
				m.Cols[j].Hi = sample.At(4)
			}
		}
	case 2:
		// Free columns in equations.
		for j := range m.Cols {
			if (seed/4+j)%2 == 0 {
				m.Cols[j].Lo, m.Cols[j].Hi = sample.Low(), sample.High()
			}
		}
		for i := range m.Rows {
			if m.Rows[i].Lo.Inf == 0 && (seed/8+i)%2 == 0 {
				m.Rows[i].Hi = m.Rows[i].Lo
			}
		}
	case 3:
		return sturdy(seed)
	}
	return m
}

// sturdy: a drawn model of which much is left, whatever the script: rows of three terms and more with both bounds, which imply bounds of the columns. Beside them stand a row of one term, a column that is one number, and now and then a free one.
func sturdy(seed int) api.Model {
	g := rand.New(rand.NewPCG(uint64(seed), 32))
	m := api.Model{Offset: sample.Frac(g.IntN(5)-2, 2)}
	for i := range 3 + g.IntN(2) {
		lo, hi := sample.At(-g.IntN(4)), sample.At(g.IntN(5))
		switch {
		case i == 2:
			hi = lo
		case i == 3 && g.IntN(2) == 0:
			lo, hi = sample.Low(), sample.High()
		}
		m.Cols = append(m.Cols, sample.Col("x"+strconv.Itoa(i), g.IntN(5)-2, lo, hi))
	}
	for i := range 2 {
		r := sample.Row("r"+strconv.Itoa(i), sample.At(-1-g.IntN(4)), sample.At(g.IntN(4)))
		for col := range m.Cols {
			r.Terms = append(r.Terms, sample.Term(col, (1+g.IntN(3))*(1-2*g.IntN(2))))
		}
		m.Rows = append(m.Rows, r)
	}
	m.Rows = slices.Insert(m.Rows, g.IntN(3), sample.Row("one", sample.Low(), sample.At(2+g.IntN(3)), sample.Term(g.IntN(len(m.Cols)), 1)))
	return m
}

// pendingToo: a drawn model with a column that lets dominate end with a direction, if it comes to it, beside whatever else there is.
func pendingToo(seed int) api.Model {
	m := busy(seed)
	m.Cols = append(m.Cols, sample.Col("away", -1-seed%3, sample.At(seed%5-2), sample.High()))
	if len(m.Rows) > 0 && seed%2 == 0 {
		r := &m.Rows[seed/2%len(m.Rows)]
		r.Hi = sample.High()
		r.Terms = append(r.Terms, sample.Term(len(m.Cols)-1, 2))
	}
	return m
}

// openToo: a drawn model with two columns that rise together without end, which no pass sees.
func openToo(seed int) api.Model {
	m := sturdy(seed)
	n := len(m.Cols)
	m.Cols = append(m.Cols, sample.Col("up", -1, sample.At(0), sample.High()), sample.Col("with", seed%2, sample.At(-1), sample.High()))
	m.Rows = append(m.Rows, sample.Row("both", sample.At(-3), sample.At(3), sample.Term(n, 2), sample.Term(n+1, -3)))
	return m
}

// TestDrawn: drawn models, drawn scripts, with all that is known of what they leave.
func TestDrawn(t *testing.T) {
	c := count{}
	for seed := range 900 {
		m := busy(seed)
		c.all(t, m, run(t, m, drawnScript(seed, 7)...))
		if seed%3 == 0 {
			m = pendingToo(seed)
			c.all(t, m, run(t, m, drawnScript(seed, 7)...))
		}
	}
	c.check(t, 50, things()...)
}

// TestAuto: with limits of each kind.
func TestAuto(t *testing.T) {
	c := count{}
	for seed := range 500 {
		limit := []int{64, 64, 7, 12, 20, 3}[seed%6]
		m := busy(seed)
		c.all(t, m, auto(t, m, limit))
		for _, m := range []api.Model{pendingToo(seed), openToo(seed)} {
			c.all(t, m, auto(t, m, limit))
		}
	}
	c.check(t, 20, things()...)
}

// TestMixed: larger models than the drawn ones above, with the answer of simplex alone.
func TestMixed(t *testing.T) {
	c := count{}
	for seed := range 500 {
		m := sample.Mixed(seed)
		for turn, r := range []presolve.Result{run(t, m, drawnScript(seed, 5)...), run(t, m, append(drawnScript(seed, 3), 7)...), auto(t, m, 64)} {
			a, _ := simplex.Solve(r.Model)
			o := c.finished(t, m, r, a)
			if solved, _ := simplex.Solve(m); o.Status != solved.Status || !sameRat(o.Value, solved.Value) {
				t.Fatalf("P5: of %v by script %d: %v", m, turn, o)
			}
		}
	}
	c.check(t, 20, "Went: 1", "Went, tightened: 1", "Went: 2", "Went: 3", "Empty: 0", "Pending: 1")
}

// TestLong: models in long units.
func TestLong(t *testing.T) {
	c := count{}
	for seed := range 160 {
		m, _ := sample.Stretched(busy(seed), api.Point{})
		if seed%4 == 0 {
			m, _ = sample.Stretched(pendingToo(seed), api.Point{})
		}
		c.all(t, m, run(t, m, drawnScript(seed, 7)...))
		c.all(t, m, auto(t, m, 64))
	}
	c.check(t, 10, "Went: 1", "Went, tightened: 1", "Went: 2", "Went: 3", "Empty: 0", "Pending: 1")
	c.check(t, 3, "Pending: 2")
}

// TestLargest: as many columns and rows as there may be.
func TestLargest(t *testing.T) {
	c := count{}
	for _, of := range trial.Samples() {
		if len(of.M.Cols) < api.MaxCols {
			continue
		}
		for _, script := range [][]int{nil, {1, 2, 6}, {7}, {3, 7, 2}} {
			r := run(t, of.M, script...)
			a, _ := simplex.Solve(r.Model)
			c.finished(t, of.M, r, a)
		}
	}
	c.check(t, 2, "Went: 1", "Went, tightened: 1")
}

// TestAlike: the same arguments are answered alike, whatever the stack was asked between.
func TestAlike(t *testing.T) {
	for seed := range 300 {
		m, script := busy(seed), drawnScript(seed, 6)
		r := run(t, m, script...)
		a, _ := simplex.Solve(r.Model)
		first, e := post.Finish(m, r, a)
		trial.Told(r.Stack)
		second, f := post.Finish(m, r, a)
		third, g := post.Finish(m, run(t, m, script...), a)
		if e != api.OK || f != api.OK || g != api.OK || !sameAnswer(first, second) || !sameAnswer(first, third) {
			t.Fatalf("P2: of %v by %v: %v, %d, then %v, %d, then %v, %d", m, script, first, e, second, f, third, g)
		}
	}
}
