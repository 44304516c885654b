package post_test

import (
	"testing"

	"tableau/api"
	"tableau/guard"
	"tableau/post"
	"tableau/presolve"
	"tableau/sample"
	"tableau/simplex"
	"tableau/trial"
)

// checkFault: what is handed in stays as it is, the stack too, and what is answered is new memory.
func checkFault(t *testing.T, m api.Model, r presolve.Result, a api.Answer) {
	t.Helper()
	before := trial.Told(r.Stack)
	handed := func(b *guard.Book) {
		b.Model(m)
		b.Model(r.Model)
		b.Cert(r.Outcome.Cert)
		b.Rats(r.Outcome.D)
		b.Answer(a)
	}
	fault := guard.Fault(handed, func(b *guard.Book) {
		o, _ := post.Finish(m, r, a)
		b.Answer(o)
	})
	if fault == "" && trial.Told(r.Stack) != before {
		fault = "the stack has changed, or shares memory"
	}
	if fault != "" {
		t.Errorf("Finish of %d columns and %d rows: %s", len(m.Cols), len(m.Rows), fault)
	}
}

// checkMemory hands in copies with marks in spare room behind each list.
func checkMemory(t *testing.T, m api.Model, r presolve.Result, a api.Answer) {
	t.Helper()
	own := presolve.Result{Model: guard.Model(r.Model), Stack: r.Stack, Outcome: api.Outcome{Kind: r.Outcome.Kind, Cert: guard.Cert(r.Outcome.Cert), D: guard.Rats(r.Outcome.D)}}
	checkFault(t, guard.Model(m), own, guard.Answer(a))
}

// TestMemory: of each outcome, each status, with steps and without; and of what is refused.
func TestMemory(t *testing.T) {
	for _, f := range finishes(t) {
		checkMemory(t, f.m, f.r, f.a)
		checkMemory(t, f.m, f.r, api.Answer{Status: 1, Value: api.Rat{Neg: true}, Point: api.Point{X: nums(1, 2)}, Ray: api.Ray{D: nums(3)}})
		checkMemory(t, f.m, presolve.Result{Model: f.r.Model, Outcome: f.r.Outcome}, f.a)
		checkMemory(t, sample.Three(), f.r, f.a)
		for _, script := range [][]int{nil, {7}, {1, 2, 3, 4, 5, 6, 7}} {
			r := run(t, f.m, script...)
			for _, a := range answers(r.Model, trial.Of(r.Model)) {
				checkMemory(t, f.m, r, a)
			}
		}
	}
	for seed := range 250 {
		m := busy(seed)
		r := run(t, m, drawnScript(seed, 6)...)
		if seed%3 == 0 {
			r = auto(t, m, 20)
		}
		a, _ := simplex.Solve(r.Model)
		checkMemory(t, m, r, a)
	}
	for i, b := range sample.Brokens() {
		if i%11 == 0 {
			f := finishes(t)[1]
			checkMemory(t, b.M, f.r, f.a)
			f.r.Model = b.M
			checkMemory(t, f.m, f.r, f.a)
		}
	}
}

// TestOneModel: what is left, if nothing went, may be the very model that is handed in; and lists of the answer may be one.
func TestOneModel(t *testing.T) {
	for seed := range 60 {
		m := guard.Model(busy(seed))
		s := run(t, m).Stack
		a, _ := simplex.Solve(m)
		checkFault(t, m, presolve.Result{Model: m, Stack: s, Outcome: api.Outcome{Kind: api.Went}}, guard.Answer(a))
	}
	for _, script := range [][]int{nil, {7}} {
		nought := guard.Rat(sample.Frac(0, 1))
		list, status := []api.Rat{nought, nought}, []api.Status{api.Lower, api.Basic}
		a := api.Answer{Status: api.Optimal, Value: nought, Point: api.Point{X: list, Y: list, Z: list}, Basis: api.Basis{Cols: status, Rows: status}}
		m := read(t, "min 0 / col x 0 0 9 / col y 0 0 9 / row r 0 0 1 y / row s 0 0 1 y")
		r := run(t, m, script...)
		count{}.finished(t, m, r, a)
		checkFault(t, m, r, a)
	}
}
