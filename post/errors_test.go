package post_test

import (
	"math"
	"slices"
	"testing"

	"tableau/api"
	"tableau/post"
	"tableau/presolve"
	"tableau/rat"
	"tableau/sample"
	"tableau/simplex"
	"tableau/stack"
	"tableau/trial"
)

// checkError: Finish answers this error, and nothing beside it, and leaves the stack as it is. OK is asked for alone.
func checkError(t *testing.T, name string, m api.Model, r presolve.Result, a api.Answer, want api.Errno) {
	t.Helper()
	before := trial.Told(r.Stack)
	o, e := post.Finish(m, r, a)
	if e != want || e != api.OK && !sameAnswer(o, api.Answer{}) || trial.Told(r.Stack) != before {
		t.Fatalf("P27: %s: Finish(%v, %v, %v) = %v, %d, want the error %d", name, m, r, a, o, e, want)
	}
}

// A finish is a model, what a script left of it, and an answer of that.
type finish struct {
	m api.Model
	r presolve.Result
	a api.Answer
}

// finishes: each outcome with each status, with bounds that were tightened and without.
func finishes(t *testing.T) []finish {
	t.Helper()
	var out []finish
	for _, k := range []struct {
		text   string
		script []int
	}{
		{"min 7/2", nil},
		{"min 3 / col x -1 0 4 / col y -1 0 4 / row r -inf 6 1 x 2 y", nil},
		{"min 3 / col x -1 0 4 / col y -1 0 4 / row r -inf 6 1 x 2 y", []int{7}},
		{"min 0 / col x 1 -inf inf / col y 1 0 inf / row r 0 0 1 x -2 y / row s 1 9 1 y", []int{1, 5}},
		{"min 0 / col x 1 0 9 / col y 1 0 9 / row r 5 inf 1 x 1 y / row s -inf 4 1 x 1 y", []int{6}},
		{"min 0 / col x 1 0 9 / col y 1 0 9 / row r 5 inf 1 x 1 y / row s -inf 4 1 x 1 y", []int{7}},
		{"min 0 / col x 1 -inf inf / col y 2 -inf inf / row r 1 1 1 x 1 y", []int{5}},
		{"min 0 / col x 1 0 3 / row q -inf 9 1 x / row r 1 2", []int{1}},
		{"min 4 / col x -1 0 inf / col y 0 3 4 / col z 1 2 2", []int{2, 3}},
		{"min 0 / col x -1 0 inf / col y 0 5 4 / row r -inf inf 1 y", []int{3}},
	} {
		m := read(t, k.text)
		r := run(t, m, k.script...)
		a, _ := simplex.Solve(r.Model)
		out = append(out, finish{m, r, a})
	}
	return out
}

// TestFinishes: they have no error.
func TestFinishes(t *testing.T) {
	c := count{}
	for _, f := range finishes(t) {
		c.finished(t, f.m, f.r, f.a)
		checkError(t, "a right one", f.m, f.r, f.a, api.OK)
	}
	c.check(t, 1, "Went: 1", "Went, tightened: 1", "Went: 2", "Went, tightened: 2", "Went: 3", "Empty: 0", "Pending: 1", "Pending: 2")
}

// wrongKinds: below 1 and above 3.
func wrongKinds() []int {
	return []int{0, 4, -1, -2, -3, 5, 1<<32 + 1, 1 << 32, math.MaxInt, math.MinInt}
}

// TestKinds: a kind that is none of the three, whatever else is right.
func TestKinds(t *testing.T) {
	for _, f := range finishes(t) {
		for _, kind := range wrongKinds() {
			r := f.r
			r.Outcome.Kind = kind
			checkError(t, "no kind", f.m, r, f.a, api.ErrPoint)
			r.Stack = nil
			checkError(t, "no kind and no stack", f.m, r, f.a, api.ErrPoint)
		}
	}
}

// TestNoStack: behind all other errors.
func TestNoStack(t *testing.T) {
	for _, f := range finishes(t) {
		f.r.Stack = nil
		checkError(t, "no stack", f.m, f.r, f.a, api.ErrNone)
		want := api.ErrPoint
		if f.r.Outcome.Kind == api.Empty {
			want = api.ErrNone
		}
		checkError(t, "no stack and no answer", f.m, f.r, api.Answer{}, want)
		// Nor are sizes asked where there is no stack.
		checkError(t, "no stack and another model", sample.Full(), f.r, f.a, api.ErrNone)
	}
}

// TestNoAnswer: ErrPoint just where Judge says that it is none of what is left; but of Empty it is not looked at.
func TestNoAnswer(t *testing.T) {
	wrong := 0
	for _, f := range finishes(t) {
		for _, a := range append(trial.Wrongs(f.a), api.Answer{}) {
			want := api.OK
			if is, _ := simplex.Judge(f.r.Model, a); !is && f.r.Outcome.Kind != api.Empty {
				want = api.ErrPoint
				wrong++
			}
			checkError(t, "another answer", f.m, f.r, a, want)
		}
	}
	if wrong < 150 {
		t.Errorf("only %d answers that are none were tried", wrong)
	}
}

// TestOtherAnswers: answers of the model that was handed in, and not of what is left, and of other models.
func TestOtherAnswers(t *testing.T) {
	tried := 0
	all := finishes(t)
	for _, f := range all {
		for _, other := range all {
			for _, m := range []api.Model{other.m, other.r.Model} {
				a, _ := simplex.Solve(m)
				if is, _ := simplex.Judge(f.r.Model, a); !is && f.r.Outcome.Kind != api.Empty {
					checkError(t, "another model's answer", f.m, f.r, a, api.ErrPoint)
					tried++
				}
			}
		}
	}
	if tried < 50 {
		t.Errorf("only %d answers of other models were tried", tried)
	}
}

// otherStacks: such whose M, or whose R, or both, have not the sizes that they must have.
func otherStacks(t *testing.T, f finish) []*stack.Stack {
	t.Helper()
	n, k := len(f.m.Cols), len(f.m.Rows)
	left, under := len(f.r.Model.Cols), len(f.r.Model.Rows)
	var out []*stack.Stack
	put := func(cols, rows, gone int) {
		s, e := stack.New(cols, rows)
		if e != api.OK {
			return
		}
		for range gone {
			s.Push(stack.Row{At: 0})
		}
		a, b, c, d := s.Size()
		if d >= 0 && (a != n || b != k || c != left || d != under) {
			out = append(out, s)
		}
	}
	for _, size := range [][2]int{{n + 1, k}, {n, k + 1}, {n - 1, k}, {n, k - 1}, {k, n}, {64, 64}, {0, 0}, {left, under}, {n, k}, {left, k}, {n, under}} {
		put(size[0], size[1], 0)
	}
	// R alone is as it must be, or M alone.
	put(left, under+1, 1)
	put(left, under+2, 2)
	put(n, k, 1)
	out = append(out, run(t, sample.Full(), 1).Stack)
	return out
}

// TestSizes: stacks of other sizes on either end, and models of others.
func TestSizes(t *testing.T) {
	for _, f := range finishes(t) {
		for _, s := range otherStacks(t, f) {
			r := f.r
			r.Stack = s
			checkError(t, "another stack", f.m, r, f.a, api.ErrUnlike)
			checkError(t, "another stack, no answer", f.m, r, api.Answer{Status: 9}, api.ErrUnlike)
			r.Outcome.Kind = 0
			checkError(t, "another stack, no kind", f.m, r, f.a, api.ErrUnlike)
		}
		col, row := sample.Col("another", 0, sample.At(0), sample.At(0)), sample.Row("another", sample.Low(), sample.High())
		m := f.m
		m.Cols = append(slices.Clone(m.Cols), col)
		checkError(t, "a column too many", m, f.r, f.a, api.ErrUnlike)
		m = f.m
		m.Rows = append(slices.Clone(m.Rows), row)
		checkError(t, "a row too many", m, f.r, f.a, api.ErrUnlike)
		r := f.r
		r.Model.Cols = append(slices.Clone(r.Model.Cols), col)
		a, _ := simplex.Solve(r.Model)
		checkError(t, "a column too many is left", f.m, r, a, api.ErrUnlike)
		r = f.r
		r.Model.Rows = append(slices.Clone(r.Model.Rows), row)
		a, _ = simplex.Solve(r.Model)
		checkError(t, "a row too many is left", f.m, r, a, api.ErrUnlike)
	}
}

// TestBroken: models that are not well formed, on either end and on both, with whatever else: of several errors the least.
func TestBroken(t *testing.T) {
	all := finishes(t)
	another, _ := stack.New(1, 3)
	for i, b := range sample.Brokens() {
		f := all[i%len(all)]
		for _, s := range []*stack.Stack{f.r.Stack, nil, another} {
			for _, kind := range []int{api.Went, api.Empty, api.Pending, 0, 7} {
				for _, a := range []api.Answer{f.a, {}, {Status: 1, Value: api.Rat{Neg: true}}} {
					r := f.r
					r.Stack, r.Outcome.Kind = s, kind
					checkError(t, "m: "+b.Name, b.M, r, a, b.E)
					r.Model = b.M
					checkError(t, "what is left: "+b.Name, f.m, r, a, b.E)
				}
			}
		}
	}
}

// TestBothBroken: the least of both errors.
func TestBothBroken(t *testing.T) {
	f := finishes(t)[2]
	first := map[api.Errno]api.Model{}
	for _, b := range sample.Brokens() {
		if _, found := first[b.E]; !found {
			first[b.E] = b.M
		}
	}
	if len(first) != 5 {
		t.Errorf("models of %d errors, want 5", len(first))
	}
	for e, m := range first {
		for g, left := range first {
			for _, s := range []*stack.Stack{f.r.Stack, nil} {
				checkError(t, "both", m, presolve.Result{Model: left, Stack: s, Outcome: f.r.Outcome}, f.a, min(e, g))
			}
		}
	}
}

// TestOutcome: what an outcome that was put together by hand has to be taken back must be in form, and of the sizes of what is left, as the stack asks.
func TestOutcome(t *testing.T) {
	for _, f := range finishes(t) {
		n, k := len(f.r.Model.Cols), len(f.r.Model.Rows)
		r := f.r
		switch r.Outcome.Kind {
		case api.Empty:
			r.Outcome.Cert = api.Cert{RowLo: filled(k+1, rat.Of(0)), RowHi: filled(k, rat.Of(0)), ColLo: filled(n, rat.Of(0)), ColHi: filled(n, rat.Of(0))}
			checkError(t, "a multiplier too many", f.m, r, f.a, api.ErrUnlike)
			r.Outcome.Cert.RowLo = filled(k+1, api.Rat{})
			checkError(t, "multipliers not in form", f.m, r, f.a, api.ErrForm)
		case api.Pending:
			if f.a.Status != api.Optimal {
				continue
			}
			r.Outcome.D = filled(n+1, rat.Of(1))
			checkError(t, "a number too many", f.m, r, f.a, api.ErrUnlike)
			r.Outcome.D = filled(n, api.Rat{})
			checkError(t, "a direction not in form", f.m, r, f.a, api.ErrForm)
		}
	}
}

// TestByHand: results that were put together by hand, of which nothing is promised but that the call ends, and has nothing beside an error.
func TestByHand(t *testing.T) {
	all := finishes(t)
	bad := sample.BadRats()
	for _, f := range all {
		n, k := len(f.r.Model.Cols), len(f.r.Model.Rows)
		for _, kind := range []int{api.Went, api.Empty, api.Pending} {
			for _, c := range []api.Cert{{}, {RowLo: filled(k, bad[1]), RowHi: filled(k, bad[2]), ColLo: filled(n, bad[3]), ColHi: filled(n, bad[4])}, {RowLo: nums(1, 2, 3, 4, 5)}, {RowLo: filled(k, rat.Of(-1)), RowHi: filled(k, rat.Of(0)), ColLo: filled(n, rat.Of(2)), ColHi: filled(n, rat.Of(0))}} {
				for _, d := range [][]api.Rat{nil, filled(n, rat.Of(1)), filled(n, bad[5]), filled(n+1, rat.Of(0)), filled(90, rat.Of(0))} {
					r := f.r
					r.Outcome = api.Outcome{Kind: kind, Cert: c, D: d}
					checkNothingBeside(t, f.m, r, f.a)
				}
			}
		}
		// Steps of another model of the same size.
		for _, other := range all {
			r := f.r
			r.Stack = other.r.Stack
			checkNothingBeside(t, f.m, r, f.a)
			r.Model = other.r.Model
			checkNothingBeside(t, f.m, r, other.a)
		}
	}
}

func checkNothingBeside(t *testing.T, m api.Model, r presolve.Result, a api.Answer) {
	t.Helper()
	if o, e := post.Finish(m, r, a); e != api.OK && !sameAnswer(o, api.Answer{}) || e < 0 || e > api.ErrPass {
		t.Fatalf("P1: Finish(%v, %v, %v) = %v, %d", m, r, a, o, e)
	}
}

// TestOtherSteps: the steps of another model of the same size, by drawn scripts.
func TestOtherSteps(t *testing.T) {
	tried := count{}
	var results []presolve.Result
	for seed := range 400 {
		results = append(results, run(t, busy(seed), drawnScript(seed, 4)...))
	}
	for seed := range 400 {
		m := busy(seed)
		for _, r := range results {
			if a, b, _, _ := r.Stack.Size(); a != len(m.Cols) || b != len(m.Rows) {
				continue
			}
			a, _ := simplex.Solve(r.Model)
			checkNothingBeside(t, m, r, a)
			tried["other steps"]++
			if r.Stack.Tightened() {
				tried["other steps, tightened"]++
			}
		}
	}
	tried.check(t, 500, "other steps", "other steps, tightened")
}
