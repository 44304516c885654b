package presolve_test

import (
	"math/rand/v2"
	"slices"
	"strconv"
	"testing"

	"tableau/api"
	"tableau/presolve"
	"tableau/sample"
	"tableau/stack"
	"tableau/trial"
)

// drawnScript: up to so many codes.
func drawnScript(seed, most int) []int {
	g := rand.New(rand.NewPCG(uint64(seed), 27))
	var out []int
	for range g.IntN(most + 1) {
		out = append(out, 1+g.IntN(7))
	}
	return out
}

// A count is how often each thing was tried.
type count map[string]int

// checkLeft: P6 and P7 hold of what is left; a basis is refused just where a bound was tightened.
func (c count) checkLeft(t *testing.T, m api.Model, r presolve.Result, how string) {
	t.Helper()
	k, fault := trial.Left(m, r.Model, r.Stack, r.Outcome)
	if fault != "" {
		t.Fatalf("P6, P7: of %v by %s: %s", m, how, fault)
	}
	c["outcome "+strconv.Itoa(r.Outcome.Kind)]++
	if r.Outcome.Kind == api.Went && r.Stack.Tightened() {
		c["tightened"]++
	}
	c["points"] += len(k.Points)
	c["directions"] += len(k.Dirs)
	c["KKT points"] += len(k.Kkts)
	c["certificates"] += len(k.Certs)
	if !r.Stack.Tightened() {
		c["bases"] += len(k.Bases)
	}
}

func (c count) check(t *testing.T, least int, names ...string) {
	t.Helper()
	for _, name := range names {
		if c[name] < least {
			t.Errorf("only %d of %s were tried", c[name], name)
		}
	}
}

// things: what must have been tried.
func things() []string {
	return []string{"points", "directions", "KKT points", "bases", "certificates", "outcome 1", "outcome 2", "outcome 3", "tightened"}
}

// busy: a drawn model with much to take out.
func busy(seed int) api.Model {
	m := sample.Prunable(seed)
	switch seed % 4 {
	case 1:
		// Most columns with both bounds, so that rows imply others.
		for j := range m.Cols {
			if m.Cols[j].Lo.Inf != 0 && (seed+j)%3 > 0 {
				m.Cols[j].Lo = sample.At(-3)
			}
			if m.Cols[j].Hi.Inf != 0 && (seed+j)%3 > 0 {
				m.Cols[j].Hi = sample.At(4)
			}
		}
	case 2:
		// Free columns in equations.
		for j := range m.Cols {
			if (seed/4+j)%2 == 0 {
				m.Cols[j].Lo, m.Cols[j].Hi = sample.Low(), sample.High()
			}
		}
		for i := range m.Rows {
			if m.Rows[i].Lo.Inf == 0 && (seed/8+i)%2 == 0 {
				m.Rows[i].Hi = m.Rows[i].Lo
			}
		}
	case 3:
		return sturdy(seed)
	}
	return m
}

// sturdy: a drawn model of which much is left, whatever the script: rows of three terms and more with both bounds, which imply bounds of the columns. Beside them stand a row of one term, and a column that is one number.
func sturdy(seed int) api.Model {
	g := rand.New(rand.NewPCG(uint64(seed), 28))
	m := api.Model{Offset: sample.Frac(g.IntN(5)-2, 2)}
	for i := range 3 + g.IntN(2) {
		lo := sample.At(-g.IntN(4))
		hi := sample.At(g.IntN(5))
		if i == 2 {
			hi = lo
		}
		m.Cols = append(m.Cols, sample.Col("x"+strconv.Itoa(i), g.IntN(5)-2, lo, hi))
	}
	for i := range 2 {
		r := sample.Row("r"+strconv.Itoa(i), sample.At(-1-g.IntN(4)), sample.At(g.IntN(4)))
		for col := range m.Cols {
			r.Terms = append(r.Terms, sample.Term(col, (1+g.IntN(3))*(1-2*g.IntN(2))))
		}
		m.Rows = append(m.Rows, r)
	}
	m.Rows = slices.Insert(m.Rows, g.IntN(3), sample.Row("one", sample.Low(), sample.At(2+g.IntN(3)), sample.Term(g.IntN(len(m.Cols)), 1)))
	return m
}

// TestDrawnScripts: drawn models, drawn scripts.
func TestDrawnScripts(t *testing.T) {
	c := count{}
	for seed := range 1600 {
		m, script := busy(seed), drawnScript(seed, 8)
		r := checkRun(t, m, script)
		c.checkLeft(t, m, r, "Run of "+codesText(script))
	}
	c.check(t, 30, things()...)
	for seed := range 150 {
		m, script := sample.Mixed(seed), drawnScript(seed, 8)
		c.checkLeft(t, m, checkRun(t, m, script), "Run of "+codesText(script))
	}
}

func codesText(script []int) string {
	out := ""
	for _, code := range script {
		out += " " + strconv.Itoa(code)
	}
	return out
}

// TestDrawnAuto: with limits of each kind.
func TestDrawnAuto(t *testing.T) {
	c := count{}
	for seed := range 1200 {
		m := busy(seed)
		limit := []int{64, 64, 64, 0, 1, 7, 12, 20, 63}[seed%9]
		r, codes := checkAuto(t, m, limit)
		c.checkLeft(t, m, r, "Auto of "+strconv.Itoa(limit))
		switch {
		case len(codes) == limit:
			c["ended by the limit"]++
		case r.Outcome.Kind == api.Went:
			c["ended by the queue"]++
		}
		if len(slices.Compact(slices.Sorted(slices.Values(codes)))) < len(codes) {
			c["a pass twice"]++
		}
	}
	c.check(t, 30, things()...)
	c.check(t, 30, "ended by the limit", "ended by the queue", "a pass twice")
	for seed := range 150 {
		m := sample.Mixed(seed)
		r, _ := checkAuto(t, m, 64)
		c.checkLeft(t, m, r, "Auto")
	}
	for _, m := range sample.Models() {
		r, _ := checkAuto(t, m, 64)
		c.checkLeft(t, m, r, "Auto")
	}
}

// TestRays: rays of what is left are taken to rays, by Primal and Lift.
func TestRays(t *testing.T) {
	count := 0
	for i, known := range sample.Rays() {
		if len(known.M.Cols) > 20 {
			continue
		}
		for turn := range 12 {
			script := drawnScript(12*i+turn, 5)
			r := checkRun(t, known.M, script)
			k, fault := trial.Left(known.M, r.Model, r.Stack, r.Outcome)
			if fault != "" {
				t.Fatalf("P7: of %v by %v: %s", known.M, script, fault)
			}
			if r.Outcome.Kind == api.Went && len(k.Points) > 0 {
				count++
			}
		}
	}
	if count < 100 {
		t.Errorf("only %d rays were tried", count)
	}
}

// TestTightened: Basis answers ErrPass just where a sweep of tighten changed the model, wherever it stands in the script.
func TestTightened(t *testing.T) {
	tried := [2]int{}
	for seed := range 600 {
		m, script := busy(seed), drawnScript(seed, 8)
		want, r := false, begun(m)
		for _, code := range script {
			ahead := r
			r = swept(r, code)
			want = want || code == 7 && ahead.Outcome.Kind == api.Went && !sameModel(ahead.Model, r.Model)
		}
		got, e := presolve.Run(m, script)
		if e != api.OK || got.Stack.Tightened() != want || (basisError(got.Stack) == api.ErrPass) != want {
			t.Fatalf("P24.2: of %v by %v: Tightened %v, Basis %d", m, script, got.Stack.Tightened(), basisError(got.Stack))
		}
		if want {
			tried[1]++
		} else {
			tried[0]++
		}
	}
	if min(tried[0], tried[1]) < 100 {
		t.Errorf("only %v were tried", tried)
	}
}

// basisError: what Basis answers of lists that fit.
func basisError(s *stack.Stack) api.Errno {
	_, _, n, k := s.Size()
	zeros := func(n int) []api.Rat { return slices.Repeat([]api.Rat{sample.Frac(0, 1)}, n) }
	_, _, e := s.Basis(api.Basis{Cols: make([]api.Status, n), Rows: make([]api.Status, k)}, api.Point{X: zeros(n), Y: zeros(k), Z: zeros(n)})
	return e
}

func sameModel(a, b api.Model) bool {
	return sameResult(presolve.Result{Model: a}, presolve.Result{Model: b})
}
