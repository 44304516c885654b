package presolve_test

import (
	"slices"
	"testing"

	"tableau/api"
	"tableau/model"
	"tableau/presolve"
	"tableau/sample"
	"tableau/trial"
)

// checkRun: Run answers what the passes do one behind the other.
func checkRun(t *testing.T, m api.Model, script []int) presolve.Result {
	t.Helper()
	r, e := presolve.Run(m, script)
	if e != api.OK || !sameResult(r, ran(m, script)) {
		t.Fatalf("P25.2: of %v: Run(%v) = %v, %d, want %v", m, script, r, e, ran(m, script))
	}
	return r
}

// checkAuto: Auto answers what the queue makes of it; and Run with its codes the same.
func checkAuto(t *testing.T, m api.Model, limit int) (presolve.Result, []int) {
	t.Helper()
	r, codes, e := presolve.Auto(m, limit)
	want, list := found(m, limit)
	if e != api.OK || !slices.Equal(codes, list) || !sameResult(r, want) {
		t.Fatalf("P25.3: of %v: Auto(%d) = %v, %v, %d, want %v, %v", m, limit, r, codes, e, want, list)
	}
	if again, e := presolve.Run(m, codes); e != api.OK || !sameResult(again, r) {
		t.Fatalf("P25.4: of %v: Run(%v) = %v, %d", m, codes, again, e)
	}
	return r, codes
}

// TestNames: the seven, in the order of their codes.
func TestNames(t *testing.T) {
	want := []string{api.PassSingle - 1: "single", api.PassFixed - 1: "fixed", api.PassDominate - 1: "dominate", api.PassPairup - 1: "pairup", api.PassSubst - 1: "subst", api.PassTwin - 1: "twin", api.PassTighten - 1: "tighten"}
	for range 2 {
		l := presolve.Names()
		if !slices.Equal(l, want) {
			t.Errorf("P25.1: Names = %v", l)
		}
		for i := range l[:cap(l)] {
			l[:cap(l)][i] = "scrawl"
		}
	}
}

// alone: for each code a model that its pass alone changes, and what comes of it.
func alone() []struct{ from, to string } {
	return []struct{ from, to string }{
		{"min 0 / col x 1 -inf inf / col y 1 0 9 / row r 2 inf 3 x / row q 1 inf 1 x 1 y", "min 0 / col x 1 2/3 inf / col y 1 0 9 / row q 1 inf 1 x 1 y"},
		{"min 0 / col x 3 2 2 / col y -1 0 inf / col z -1 0 inf / row r -inf 5 1 x 1 y 1 z", "min 6 / col y -1 0 inf / col z -1 0 inf / row r -inf 3 1 y 1 z"},
		{"min 0 / col x 1 0 inf / col y -1 -inf inf / row r -inf 3 1 x -1 y / row q -inf 9 1 x 1 y", "min 0 / col y -1 -inf inf / row r -inf 3 -1 y / row q -inf 9 1 y"},
		{"min 0 / col x 1 0 4 / col y 0 0 2 / row r 0 0 1 x -2 y", "min 0 / col y 2 0 2"},
		{"min 0 / col x 1 -inf inf / col y 1 0 inf / col z 1 0 inf / row r 0 0 1 x -2 y -1 z", "min 0 / col y 3 0 inf / col z 2 0 inf"},
		{"min 0 / col x -1 0 inf / col y -1 0 inf / row r -inf 4 1 x 1 y / row q -inf -2 -2 x -2 y", "min 0 / col x -1 0 inf / col y -1 0 inf / row r 1 4 1 x 1 y"},
		{"min 0 / col x -1 0 4 / col y -1 0 4 / row r -inf 6 1 x 2 y", "min 0 / col x -1 0 4 / col y -1 0 3 / row r -inf 6 1 x 2 y"},
	}
}

// TestOne: each code is its pass's.
func TestOne(t *testing.T) {
	for place, c := range alone() {
		m := read(t, c.from)
		for code := 1; code <= 7; code++ {
			s := fresh(m)
			r, o, e := presolve.One(code, m, s)
			got := presolve.Result{Model: r, Stack: s, Outcome: o}
			if e != api.OK || !sameResult(got, ran(m, []int{code})) {
				t.Errorf("P25.1: of %s: One(%d) = %v, %v, %d", c.from, code, r, o, e)
			}
			if same, _ := model.Equal(r, read(t, c.to)); code == place+1 && !same {
				t.Errorf("P25.1: of %s: One(%d) = %v", c.from, code, r)
			}
		}
	}
	for seed := range 300 {
		m := sample.Prunable(seed)
		for code := 1; code <= 7; code++ {
			s := fresh(m)
			r, o, e := presolve.One(code, m, s)
			if got := (presolve.Result{Model: r, Stack: s, Outcome: o}); e != api.OK || !sameResult(got, ran(m, []int{code})) {
				t.Fatalf("P25.1: of %v: One(%d) = %v, %v, %d", m, code, r, o, e)
			}
		}
	}
}

// TestOneAgain: on one stack, one behind the other: that is what Run does.
func TestOneAgain(t *testing.T) {
	for seed := range 200 {
		m := sample.Prunable(seed)
		script := drawnScript(seed, 6)
		got := begun(m)
		for _, code := range script {
			if got.Outcome.Kind == api.Went {
				got.Model, got.Outcome, _ = presolve.One(code, got.Model, got.Stack)
			}
		}
		if r, e := presolve.Run(m, script); e != api.OK || !sameResult(r, got) {
			t.Fatalf("P25.2: of %v: Run(%v) = %v, %d", m, script, r, e)
		}
	}
}

// TestRun: the chapter's example; scripts of none, of each one, of several, of one again and again; sweeps that end the script at its first, a middle and its last place.
func TestRun(t *testing.T) {
	six := "min 0 / col x 1 -inf inf / row r 2 2 3 x"
	empty := "min 0 / col x 1 0 3 / row r 1 2"
	pending := "min 7 / col x -1 0 inf / col y 5 1 1 / row r -inf inf 1 x 1 y"
	for _, c := range []struct {
		from   string
		script []int
		to     string
		kind   int
	}{
		{six, []int{1, 2}, "min 2/3", api.Went},
		{six, nil, six, api.Went},
		{six, []int{}, six, api.Went},
		{six, []int{1}, "min 0 / col x 1 2/3 2/3", api.Went},
		{six, []int{2}, six, api.Went},
		{six, []int{5}, "min 2/3", api.Went},
		{six, []int{7}, "min 0 / col x 1 2/3 2/3 / row r 2 2 3 x", api.Went},
		{six, []int{7, 2}, "min 2/3 / row r 0 0", api.Went},
		{six, []int{7, 2, 1}, "min 2/3", api.Went},
		{six, []int{2, 1}, "min 0 / col x 1 2/3 2/3", api.Went},
		{six, slices.Repeat([]int{1}, 64), "min 0 / col x 1 2/3 2/3", api.Went},
		{six, slices.Repeat([]int{2, 1, 6, 7}, 16), "min 2/3", api.Went},
		{"min 0", []int{1, 2, 3, 4, 5, 6, 7}, "min 0", api.Went},
		{empty, []int{1}, empty, api.Empty},
		{empty, []int{1, 3, 7}, empty, api.Empty},
		{empty, []int{7, 2, 1, 3, 3}, empty, api.Empty},
		{empty, []int{3, 1}, "min 0 / row r 1 2", api.Empty},
		{empty, []int{3, 2, 4, 6}, "min 0 / row r 1 2", api.Went},
		{pending, []int{3}, "min 0 / col x 0 0 inf / col y 0 1 1 / row r -inf inf 1 x 1 y", api.Pending},
		{pending, []int{3, 2, 1}, "min 0 / col x 0 0 inf / col y 0 1 1 / row r -inf inf 1 x 1 y", api.Pending},
		{pending, []int{2, 3, 7, 3}, "min 0 / col x 0 0 inf / row r -inf inf 1 x", api.Pending},
		{pending, []int{6, 4, 2, 3}, "min 0 / col x 0 0 inf / row r -inf inf 1 x", api.Pending},
	} {
		m := read(t, c.from)
		r := checkRun(t, m, c.script)
		if same, _ := model.Equal(r.Model, read(t, c.to)); !same || r.Outcome.Kind != c.kind {
			t.Errorf("P25.2: of %s: Run(%v) = %v", c.from, c.script, r)
		}
		if _, fault := trial.Left(m, r.Model, r.Stack, r.Outcome); fault != "" {
			t.Errorf("P25.2: of %s: Run(%v): %s", c.from, c.script, fault)
		}
	}
}

// TestEmpty: the certificate, and the direction, are those of the model that is left; none stands beside Went.
func TestEmpty(t *testing.T) {
	r := checkRun(t, read(t, "min 0 / col x 1 2 2 / row q 0 9 1 x / row r 1 2 / row s 0 3"), []int{2, 1, 7})
	want := api.Cert{RowLo: []api.Rat{sample.Frac(1, 1), sample.Frac(0, 1)}, RowHi: []api.Rat{sample.Frac(0, 1), sample.Frac(0, 1)}}
	if r.Outcome.Kind != api.Empty || !sameCert(r.Outcome.Cert, want) || len(r.Outcome.D) > 0 {
		t.Errorf("P25.2: %v", r)
	}
	r = checkRun(t, read(t, "min 0 / col y 1 2 2 / col x 1 -inf 9"), []int{2, 3})
	if r.Outcome.Kind != api.Pending || !sameRats(r.Outcome.D, []api.Rat{sample.Frac(-1, 1)}) || !sameCert(r.Outcome.Cert, api.Cert{}) {
		t.Errorf("P25.2: %v", r)
	}
}

// endless: x and y make one another's bounds half as great with each sweep of tighten.
const endless = "min 0 / col x -1 0 8 / col y -1 0 8 / row a -inf 0 1 x -1/2 y / row b -inf 0 -1/2 x 1 y"

// TestAuto: the chapter's example; models that no pass changes, that one changes, that several change again and again, and that the limit or the outcome ends.
func TestAuto(t *testing.T) {
	all := []int{1, 2, 3, 4, 5, 6, 7}
	for _, c := range []struct {
		from  string
		limit int
		codes []int
	}{
		{"min 0", 64, all},
		{"min 0", 7, all},
		{"min 0", 6, []int{1, 2, 3, 4, 5, 6}},
		{"min 0", 1, []int{1}},
		{"min 0", 0, nil},
		{"min 0 / col x 0 2 1", 64, all},
		{"min 0 / col x 1 -inf inf / row r 2 2 3 x", 64, []int{1, 1, 2, 1, 2, 3, 4, 5, 6, 7}},
		{"min 0 / col x 1 -inf inf / row r 2 2 3 x", 3, []int{1, 1, 2}},
		{"min 0 / col x 1 -inf inf / row r 2 2 3 x", 2, []int{1, 1}},
		{"min 0 / col x 1 -inf inf / row r 2 2 3 x", 1, []int{1}},
		{"min 0 / col x 1 -inf inf / row r 2 2 3 x", 0, nil},
		{"min 0 / col x -1 0 4 / col y -1 0 4 / row r -inf 6 1 x 2 y", 64, append(all, all...)},
		{"min 0 / col x -1 0 4 / col y -1 0 4 / row r -inf 6 1 x 2 y", 8, append(all, 1)},
		{"min 0 / col x 1 0 3 / row r 1 2", 64, []int{1}},
		{"min 0 / col x 1 3 3 / row r 1 2 1 x", 64, []int{1, 1, 2, 3, 4, 5, 6, 7}},
		{"min 7 / col x -1 0 inf", 64, []int{1, 2, 3}},
		{"min 7 / col x -1 0 inf", 2, []int{1, 2}},
		{"min 7 / col x -1 0 inf / col y 5 1 1", 64, []int{1, 2, 1, 2, 3}},
		{endless, 64, append(slices.Repeat(all, 9), 1)},
		{endless, 63, slices.Repeat(all, 9)},
	} {
		m := read(t, c.from)
		r, codes := checkAuto(t, m, c.limit)
		if !slices.Equal(codes, c.codes) {
			t.Errorf("P25.3: of %s: Auto(%d): the codes %v", c.from, c.limit, codes)
		}
		if _, fault := trial.Left(m, r.Model, r.Stack, r.Outcome); fault != "" {
			t.Errorf("P25.3: of %s: Auto(%d): %s", c.from, c.limit, fault)
		}
	}
}
