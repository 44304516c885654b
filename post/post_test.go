package post_test

import (
	"testing"

	"tableau/api"
	"tableau/point"
	"tableau/post"
	"tableau/sample"
	"tableau/simplex"
)

// TestExamples: DOC.md's 8 and 9.
func TestExamples(t *testing.T) {
	m := read(t, "min 0 / row r 1 2")
	o, e := post.Finish(m, run(t, m, api.PassSingle), api.Answer{})
	want := api.Answer{Status: api.Infeasible, Cert: api.Cert{RowLo: nums(1), RowHi: nums(0)}}
	if e != api.OK || !sameAnswer(o, want) {
		t.Errorf("P27.1: example 8: %v, %d", o, e)
	}
	m = read(t, "min 0 / col x -1 0 inf / col y 0 5 4")
	r := run(t, m, api.PassDominate)
	cert := api.Cert{ColLo: nums(0, 1), ColHi: nums(0, 1)}
	o, e = post.Finish(m, r, api.Answer{Status: api.Infeasible, Cert: cert})
	if e != api.OK || r.Outcome.Kind != api.Pending || !sameAnswer(o, api.Answer{Status: api.Infeasible, Cert: cert}) {
		t.Errorf("P27.1: example 9: %v, %d", o, e)
	}
	m = read(t, "min 0 / col x -1 0 inf / col y 0 3 4")
	r = run(t, m, api.PassDominate)
	a, _ := simplex.Solve(r.Model)
	o, e = post.Finish(m, r, a)
	if is, _ := simplex.Judge(m, o); e != api.OK || !is || o.Status != api.Unbounded || !sameRats(o.Ray.D, nums(1, 0)) || !sameRats(o.Ray.X, a.Point.X) {
		t.Errorf("P27.1: example 9 with a point: %v, %d", o, e)
	}
}

// TestScripts: each outcome with each status of the answer, by no pass, by one, by several and by Auto.
func TestScripts(t *testing.T) {
	c := count{}
	for _, k := range []struct {
		text   string
		script []int
		kind   int
		status int
	}{
		{"min 7/2", nil, api.Went, api.Optimal},
		{"min 7/2", []int{1, 2, 3, 4, 5, 6, 7}, api.Went, api.Optimal},
		{"min 3 / col x -1 0 4 / col y -1 0 4 / row r -inf 6 1 x 2 y", nil, api.Went, api.Optimal},
		{"min 3 / col x -1 0 4 / col y -1 0 4 / row r -inf 6 1 x 2 y", []int{7}, api.Went, api.Optimal},
		{"min 3 / col x -1 0 4 / col y -1 0 4 / row r -inf 6 1 x 2 y", []int{7, 7, 1, 7}, api.Went, api.Optimal},
		{"min 0 / col x 1 -inf inf / row r 2 2 3 x", []int{1}, api.Went, api.Optimal},
		{"min 0 / col x 1 -inf inf / row r 2 2 3 x", []int{1, 2}, api.Went, api.Optimal},
		{"min 0 / col x 1 -inf inf / row r 2 2 3 x", []int{7, 2}, api.Went, api.Optimal},
		{"min 0 / col x 1 -inf inf / row r 2 2 3 x", []int{7, 2, 1}, api.Went, api.Optimal},
		{"min 0 / col x 1 -inf inf / col y 1 0 inf / row r 0 0 1 x -2 y", []int{5}, api.Went, api.Optimal},
		{"min 0 / col x 1 0 4 / col y 0 0 2 / row r 1 1 1 x -2 y", []int{4}, api.Went, api.Optimal},
		{"min 0 / col x 1 2 2 / col y 1 0 9 / col z 0 0 9 / row r 1 1 1 y -1 z / row s 2 2 1 y 1 z", []int{7, 4, 1, 4, 2, 7}, api.Went, api.Optimal},
		{"min 0 / col x -1 0 inf / col y -1 0 inf / row r -inf 4 1 x 1 y / row q -inf -2 -2 x -2 y", []int{6}, api.Went, api.Optimal},
		{"min 0 / col x 0 0 4", []int{7}, api.Went, api.Optimal},
		{"min 0 / col x 1 2 1", nil, api.Went, api.Infeasible},
		{"min 0 / row r 1 2", nil, api.Went, api.Infeasible},
		{"min 0 / col x 1 0 9 / col y 1 0 9 / row r 5 inf 1 x 1 y / row s -inf 4 1 x 1 y", []int{6}, api.Went, api.Infeasible},
		{"min 0 / col x 1 0 9 / col y 1 0 9 / row r 5 inf 1 x 1 y / row s -inf 4 1 x 1 y", []int{7}, api.Went, api.Infeasible},
		{"min 0 / col x 1 0 2 / row r 3 4 1 x", []int{1}, api.Went, api.Infeasible},
		{"min 0 / col x 1 0 2 / row r 3 4 1 x", []int{7, 1, 6}, api.Went, api.Infeasible},
		{"min 0 / col x 1 -inf inf", nil, api.Went, api.Unbounded},
		{"min 0 / col x 1 -inf inf / col y 2 -inf inf / row r 1 1 1 x 1 y", []int{5}, api.Went, api.Unbounded},
		{"min 0 / col x 1 -inf inf / col y 2 -inf inf / col z 1 0 9 / row r 1 1 1 x 1 y / row s -inf 3 2 z", []int{7, 5, 1}, api.Went, api.Unbounded},
		{"min 0 / row r 1 2", []int{1}, api.Empty, api.Infeasible},
		{"min 0 / col x 1 3 3 / col y 1 0 9 / row r -inf 2 1 x / row s 0 1 1 y", []int{2, 7, 1, 3}, api.Empty, api.Infeasible},
		{"min 0 / col x 1 3 3 / row r -inf 2 1 x", []int{2, 1}, api.Empty, api.Infeasible},
		{"min 4 / col x -1 0 inf / col y 0 3 4", []int{3}, api.Pending, api.Unbounded},
		{"min 4 / col x -1 0 inf / col y 0 3 4 / row r 7 inf 2 x 1 y", []int{7, 3}, api.Pending, api.Unbounded},
		{"min 4 / col x 1 -inf 0 / col y 5 3 3 / row r -inf 2 1 x / row s -inf 9 1 x 1 y", []int{1, 2, 3, 1}, api.Pending, api.Unbounded},
		{"min 0 / col x -1 0 inf / col y 0 5 4", []int{3}, api.Pending, api.Infeasible},
		{"min 0 / col x -1 0 inf / col y 0 5 6 / col z 0 0 9 / row r -inf 3 1 y 1 z", []int{2, 3}, api.Pending, api.Infeasible},
		{"min 0 / col x -1 0 inf / col y 1 0 9 / col z 1 0 9 / row r -inf 3 1 y 1 z / row s 5 inf 1 y 1 z", []int{7, 3}, api.Pending, api.Infeasible},
	} {
		m := read(t, k.text)
		r := run(t, m, k.script...)
		if r.Outcome.Kind != k.kind {
			t.Errorf("%s by %v: the outcome is %d", k.text, k.script, r.Outcome.Kind)
		}
		c.all(t, m, r)
		for limit := range 20 {
			c.all(t, m, auto(t, m, limit))
		}
		a, _ := simplex.Solve(r.Model)
		if o, _ := post.Finish(m, r, a); o.Status != k.status {
			t.Errorf("P27.1: %s by %v: the status is %d", k.text, k.script, o.Status)
		}
	}
	c.check(t, 3, things()...)
}

// TestTightened: bounds that were tightened and that the least value leans on, of which the row has to bear what leaned on them; and such that nothing leans on.
func TestTightened(t *testing.T) {
	for _, k := range []struct {
		text  string
		value api.Rat
		basis api.Basis
	}{
		{"min 3 / col x 0 0 4 / col y -1 0 4 / row r -inf 6 1 x 2 y", sample.Frac(0, 1), api.Basis{Cols: []api.Status{api.Lower, api.Basic}, Rows: []api.Status{api.Upper}}},
		{"min 3 / col x 0 0 0 / col y -1 -inf inf / row r -inf 6 1 x 2 y / row s 0 inf 1 y", sample.Frac(0, 1), api.Basis{}},
		{"min 0 / col x 1 0 4 / col y 1 0 4 / row r -inf 6 1 x 2 y", sample.Frac(0, 1), api.Basis{Cols: []api.Status{api.Lower, api.Lower}, Rows: []api.Status{api.Basic}}},
	} {
		m := read(t, k.text)
		r := run(t, m, api.PassTighten)
		if !r.Stack.Tightened() {
			t.Fatalf("%s: no bound is tightened", k.text)
		}
		a, _ := simplex.Solve(r.Model)
		o := count{}.finished(t, m, r, a)
		if !sameRat(o.Value, k.value) || len(k.basis.Cols) > 0 && !sameBasis(o.Basis, k.basis) {
			t.Errorf("P27.1: %s: %v", k.text, o)
		}
		if v, _ := point.Value(m, o.Point.X); !sameRat(v, k.value) {
			t.Errorf("P27.1: %s: X has the value %v", k.text, v)
		}
		count{}.all(t, m, r)
	}
}

// TestNotLookedAt: of Empty the answer may be anything.
func TestNotLookedAt(t *testing.T) {
	m := read(t, "min 0 / col x 1 0 3 / col y 1 2 2 / row q -inf 5 1 x 1 y / row r 3 4 1 y")
	r := run(t, m, 2, 1)
	if r.Outcome.Kind != api.Empty {
		t.Fatalf("the outcome is %d", r.Outcome.Kind)
	}
	want := count{}.finished(t, m, r, api.Answer{})
	bad := api.Rat{Neg: true, Den: []uint64{0}}
	for status := -2; status < 6; status++ {
		for _, a := range []api.Answer{
			{}, {Value: bad}, {Point: api.Point{X: []api.Rat{bad}, Y: nums(1)}}, {Basis: api.Basis{Cols: filled(3, api.Status(9)), Rows: filled(70, api.Basic)}},
			{Cert: api.Cert{RowLo: []api.Rat{bad}, ColHi: nums(1, 2)}}, {Ray: api.Ray{X: nums(1, 2, 3), D: []api.Rat{bad}}}, {Cert: r.Outcome.Cert}, want,
		} {
			a.Status = status
			if o, e := post.Finish(m, r, a); e != api.OK || !sameAnswer(o, want) {
				t.Errorf("P27.1: with %v: %v, %d", a, o, e)
			}
		}
	}
}
