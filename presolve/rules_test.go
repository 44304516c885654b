package presolve_test

import (
	"math"
	"slices"
	"testing"

	"tableau/api"
	"tableau/guard"
	"tableau/presolve"
	"tableau/sample"
	"tableau/stack"
	"tableau/trial"
)

// wrongCodes: below 1 and above 7.
func wrongCodes() []int {
	return []int{0, 8, -1, 9, -7, 64, 1 << 32, 1<<32 + 1, math.MaxInt, math.MinInt, math.MinInt + 1}
}

// TestOneErrors: of each pass its own, through One.
func TestOneErrors(t *testing.T) {
	for code := 1; code <= 7; code++ {
		one := func(m api.Model, s *stack.Stack) (api.Model, api.Outcome, api.Errno) { return presolve.One(code, m, s) }
		if fault := trial.ErrorFault(one); fault != "" {
			t.Errorf("P25.1: One(%d): %s", code, fault)
		}
	}
}

// TestOneWrongCode: ErrPass comes behind all other errors, and nothing is swept.
func TestOneWrongCode(t *testing.T) {
	check := func(code int, m api.Model, s *stack.Stack, want api.Errno) {
		t.Helper()
		before := trial.Told(s)
		r, o, e := presolve.One(code, m, s)
		if e != want || !isNoModel(r) || !isNoOutcome(o) || trial.Told(s) != before {
			t.Errorf("P25.1: One(%d, %v): %v, %v, %d, want %d", code, m, r, o, e, want)
		}
	}
	for i, code := range wrongCodes() {
		for _, b := range sample.Brokens() {
			n, k := len(b.M.Cols), len(b.M.Rows)
			check(code, b.M, nil, b.E)
			if s, e := stack.New(n+i%2, k); e == api.OK {
				check(code, b.M, s, b.E)
			}
		}
		for _, m := range sample.Models() {
			check(code, m, nil, api.ErrNone)
			check(code, m, fresh(m), api.ErrPass)
			if s, e := stack.New(len(m.Cols)+1, len(m.Rows)); e == api.OK {
				check(code, m, s, api.ErrUnlike)
			}
		}
	}
}

// least: of errors the one with the least number, where 0 is none.
func least(list ...api.Errno) api.Errno {
	list = slices.DeleteFunc(list, func(e api.Errno) bool { return e == api.OK })
	if len(list) == 0 {
		return api.OK
	}
	return slices.Min(list)
}

// scripts: with the error that each has.
func scripts() map[api.Errno][][]int {
	out := map[api.Errno][][]int{
		api.OK:      {nil, {}, {1}, {7}, {1, 2, 3, 4, 5, 6, 7}, slices.Repeat([]int{4}, 63), slices.Repeat([]int{6}, 64)},
		api.ErrLong: {slices.Repeat([]int{1}, 65), slices.Repeat([]int{0}, 65), make([]int, 5000)},
	}
	for _, code := range wrongCodes() {
		whole := slices.Repeat([]int{2}, 64)
		whole[63] = code
		out[api.ErrPass] = append(out[api.ErrPass], []int{code}, []int{code, 1}, []int{1, code}, []int{1, code, 1}, []int{code, code}, whole, slices.Concat(whole[63:], whole[:63]))
		out[api.ErrLong] = append(out[api.ErrLong], append(whole, 1))
	}
	return out
}

// TestRunErrors: models that are not well formed, scripts that are too long or have a wrong code, at each place; of several errors the least.
func TestRunErrors(t *testing.T) {
	for of, list := range scripts() {
		for _, script := range list {
			for _, b := range sample.Brokens() {
				if r, e := presolve.Run(b.M, script); e != least(b.E, of) || !isNothing(r) {
					t.Errorf("P25.2: %s: Run(%v): %v, %d", b.Name, script, r, e)
				}
			}
			for _, m := range []api.Model{sample.Three(), sample.Long(), {Offset: sample.Frac(0, 1)}} {
				r, e := presolve.Run(m, script)
				if e != of || e != api.OK && !isNothing(r) {
					t.Errorf("P25.2: of %v: Run(%v): %v, %d", m, script, r, e)
				}
			}
		}
	}
}

// TestWrongBehind: all codes are asked ahead of the first sweep, also those behind one that would be the last.
func TestWrongBehind(t *testing.T) {
	for _, m := range []api.Model{read(t, "min 0 / row r 1 2"), read(t, "min 0 / col x -1 0 inf"), read(t, "min 0")} {
		for _, code := range wrongCodes() {
			for _, script := range [][]int{{1, 3, code}, {3, 1, 1, code}, {1, code, 3}, {code, 1, 3}} {
				if r, e := presolve.Run(m, script); e != api.ErrPass || !isNothing(r) {
					t.Errorf("P25.2: of %v: Run(%v): %v, %d", m, script, r, e)
				}
			}
		}
	}
}

// TestAutoErrors: limits below 0 and above 64; ErrArg comes ahead of the model's errors.
func TestAutoErrors(t *testing.T) {
	for _, limit := range []int{-1, 65, 0, 1, 7, 64, 1 << 32, 1<<32 + 7, math.MaxInt, math.MinInt} {
		of := api.OK
		if limit < 0 || limit > 64 {
			of = api.ErrArg
		}
		for _, b := range sample.Brokens() {
			if r, codes, e := presolve.Auto(b.M, limit); e != least(b.E, of) || !isNothing(r) || len(codes) > 0 {
				t.Errorf("P25.3: %s: Auto(%d): %v, %v, %d", b.Name, limit, r, codes, e)
			}
		}
		for _, m := range []api.Model{sample.Three(), sample.Long(), {Offset: sample.Frac(0, 1)}} {
			r, codes, e := presolve.Auto(m, limit)
			if e != of || e != api.OK && (!isNothing(r) || len(codes) > 0) {
				t.Errorf("P25.3: of %v: Auto(%d): %v, %v, %d", m, limit, r, codes, e)
			}
		}
	}
}

// tellResult tells the lists of a result, but for the stack's, which shows none.
func tellResult(b *guard.Book, r presolve.Result) {
	b.Model(r.Model)
	b.Cert(r.Outcome.Cert)
	b.Rats(r.Outcome.D)
}

// checkMemory: what Run and Auto are handed stays as it is; what they answer is new memory; and the stack tells the same, whatever becomes of both.
func checkMemory(t *testing.T, m api.Model, script []int, limit int) {
	t.Helper()
	own, list := guard.Model(m), append(slices.Clone(script), 77, 78, 79)[:len(script)]
	var stacks []*stack.Stack
	fault := guard.Fault(func(b *guard.Book) { b.Model(own); b.Ints(list) }, func(b *guard.Book) {
		r, _ := presolve.Run(own, list)
		tellResult(b, r)
		stacks = append(stacks, r.Stack)
	})
	want, _ := presolve.Run(m, script)
	checkStacks(t, m, fault, stacks, want.Stack)
	own, stacks = guard.Model(m), nil
	fault = guard.Fault(func(b *guard.Book) { b.Model(own) }, func(b *guard.Book) {
		r, codes, _ := presolve.Auto(own, limit)
		tellResult(b, r)
		b.Ints(codes)
		stacks = append(stacks, r.Stack)
	})
	want, _, _ = presolve.Auto(m, limit)
	checkStacks(t, m, fault, stacks, want.Stack)
}

func checkStacks(t *testing.T, m api.Model, fault string, stacks []*stack.Stack, want *stack.Stack) {
	t.Helper()
	for _, s := range stacks {
		if fault == "" && trial.Told(s) != trial.Told(want) {
			fault = "the stack shares memory with what was handed in, or with what was answered"
		}
	}
	if fault == "" {
		fault = trial.StackFault(want)
	}
	if fault != "" {
		t.Fatalf("P25, memory, of %v: %s", m, fault)
	}
}

// TestMemory: of each call.
func TestMemory(t *testing.T) {
	for seed := range 200 {
		checkMemory(t, sample.Prunable(seed), drawnScript(seed, 6), seed%20)
	}
	for _, c := range alone() {
		for code := 1; code <= 7; code++ {
			checkMemory(t, read(t, c.from), []int{code}, 7)
			one := func(m api.Model, s *stack.Stack) (api.Model, api.Outcome, api.Errno) { return presolve.One(code, m, s) }
			if fault := trial.MemoryFault(one, read(t, c.from)); fault != "" {
				t.Errorf("P25, memory, of %s: One(%d): %s", c.from, code, fault)
			}
		}
		checkMemory(t, read(t, c.from), nil, 0)
	}
	for _, m := range sample.Models() {
		checkMemory(t, m, []int{1, 7, 2}, 9)
	}
	text := func(s string) string { return s }
	if fault := guard.Fault(func(b *guard.Book) {}, func(b *guard.Book) { guard.List(b, presolve.Names(), text, "scrawl") }); fault != "" {
		t.Errorf("P25, memory: Names: %s", fault)
	}
}

// TestAsked: what a stack answers is the same each time, and whatever it was asked between.
func TestAsked(t *testing.T) {
	for seed := range 150 {
		r, e := presolve.Run(sample.Prunable(seed), drawnScript(seed, 6))
		before := trial.Told(r.Stack)
		trial.Of(r.Model)
		if e != api.OK || trial.Told(r.Stack) != before || trial.Told(r.Stack) != before {
			t.Fatalf("P17.5: of %v: asked again, the stack tells something else", r.Model)
		}
	}
}
