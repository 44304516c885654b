package driver_test

import (
	"slices"
	"strings"
	"testing"

	"tableau/api"
	"tableau/driver"
	"tableau/sample"
	"tableau/simplex"
	"tableau/trial"
)

// TestExamples: those of the whole, by their scripts, and the chapter's.
func TestExamples(t *testing.T) {
	for _, k := range []struct {
		text   string
		script []int
		report string // where there is but one
	}{
		{"min 0 / col x 1 1 inf", nil, "optimal 1 / col x 1 1 lower"},
		{"min 3 / col x -1 0 4 / col y -1 0 4 / row r -inf 6 1 x 2 y", nil, "optimal -2 / col x 4 -1/2 upper / col y 1 0 basic / row r -1/2 upper"},
		{"min 3 / col x -1 0 4 / col y -1 0 4 / row r -inf 6 1 x 2 y", []int{api.PassTighten}, "optimal -2 / col x 4 -1/2 upper / col y 1 0 basic / row r -1/2 upper"},
		{"min 0 / col x 1 -inf inf / row r 2 2 3 x", []int{api.PassSingle, api.PassFixed}, "optimal 2/3 / col x 2/3 0 basic / row r 1/3 "},
		{"min 0 / col x 1 -inf inf / col y 1 0 inf / row r 0 0 1 x -2 y", []int{api.PassSubst}, "optimal 0 / col x 0 0 basic / col y 0 3 lower / row r 1 "},
		{"min 0 / row r 1 2", []int{api.PassSingle}, "infeasible / row r "},
		{"min 0 / col x 0 2 1", nil, "infeasible / col x "},
		{"min 0 / col x 1 -inf inf", nil, "unbounded / col x "},
		{"min 0 / col x -1 0 inf / col y 0 5 4", []int{api.PassDominate}, "infeasible / col x 0 0 / col y "},
	} {
		m := read(t, k.text)
		a := answered(t, m, k.script)
		s, e := driver.Report(m, a)
		begins := strings.TrimSuffix(lines(k.report), "\n")
		if e != api.OK || !strings.HasPrefix(s, begins) || !strings.HasSuffix(begins, " ") && s != begins+"\n" {
			t.Errorf("P28.2: of %s: Report(%v) = %q, %d, want %q", k.text, a, s, e, k.report)
		}
		checkReport(t, m, a)
	}
	if a := answered(t, read(t, "min 0 / col x 1 -inf inf"), nil); a.Status != api.Unbounded || !a.Ray.D[0].Neg {
		t.Errorf("P28.1: example 2: %v", a)
	}
	for _, code := range []int{0, 8} {
		if a, e := driver.Solve(read(t, "min 0"), []int{code}); e != api.ErrPass || !isNothing(a) {
			t.Errorf("P28.1: example 10: %v, %d", a, e)
		}
	}
}

// TestReports: each status, without columns and without rows, each of the four statuses, long numbers, such below 0, and fractions.
func TestReports(t *testing.T) {
	at, status := sample.At, func(list ...api.Status) []api.Status { return list }
	long := api.Rat{Neg: true, Num: []uint64{0, 0, 1}, Den: []uint64{3}}
	free := api.Model{Offset: sample.Frac(1, 2), Cols: []api.Col{sample.Col("w", 0, sample.Low(), sample.High()), sample.Col("x", 2, at(0), at(3)), sample.Col("y", -2, at(0), at(3)), sample.Col("z_9", 0, sample.Low(), sample.High())}}
	free.Rows = []api.Row{sample.Row("x", at(5), at(6), sample.Term(3, 1)), sample.Row("s", sample.Low(), at(0), sample.Term(0, 1)), sample.Row("t", at(-7), sample.High())}
	deep := api.Model{Offset: long, Cols: []api.Col{{Name: "abcdefghijklmnop", Cost: long, Lo: sample.Low(), Hi: api.Ext{V: long}}}}
	square := "340282366920938463463374607431768211456" // 2^128
	fourth := "115792089237316195423570985008687907853269984665640564039457584007913129639936"
	value, _ := simplex.Solve(deep)
	for _, k := range []struct {
		m      api.Model
		a      api.Answer
		report string
	}{
		{api.Model{Offset: sample.Frac(-7, 3)}, api.Answer{Status: 1, Value: sample.Frac(-7, 3)}, "optimal -7/3"},
		{free, api.Answer{Status: 1, Value: sample.Frac(-11, 2), Point: api.Point{X: nums(0, 0, 3, 5), Y: nums(0, 0, 0), Z: nums(0, 2, -2, 0)}, Basis: api.Basis{Cols: status(3, 1, 2, 0), Rows: status(1, 0, 0)}},
			"optimal -11/2 / col w 0 0 free / col x 0 2 lower / col y 3 -2 upper / col z_9 5 0 basic / row x 0 lower / row s 0 basic / row t 0 basic"},
		{free, api.Answer{Status: 1, Value: sample.Frac(-11, 2), Point: api.Point{X: nums(0, 0, 3, 6), Y: nums(0, 0, 0), Z: nums(0, 2, -2, 0)}, Basis: api.Basis{Cols: status(0, 1, 2, 0), Rows: status(2, 2, 0)}},
			"optimal -11/2 / col w 0 0 basic / col x 0 2 lower / col y 3 -2 upper / col z_9 6 0 basic / row x 0 upper / row s 0 upper / row t 0 basic"},
		{deep, value, "optimal " + bigValue(t, fourth, square) + " / col abcdefghijklmnop -" + square + "/3 -" + square + "/3 upper"},
		{read(t, "min 0 / row r 1 2 / row s 0 0"), api.Answer{Status: 2, Cert: api.Cert{RowLo: []api.Rat{sample.Frac(2, 3), rats(0)}, RowHi: []api.Rat{sample.Frac(0, 1), sample.Frac(7, 2)}}}, "infeasible / row r 2/3 0 / row s 0 7/2"},
		{read(t, "min 0 / col x 0 2 1 / col y 5 0 inf"), api.Answer{Status: 2, Cert: api.Cert{ColLo: nums(1, 0), ColHi: nums(1, 0)}}, "infeasible / col x 1 1 / col y 0 0"},
		{read(t, "min 0 / col x 1 0 1 / row r 2 inf 1 x / row s -inf 9 1 x"), api.Answer{Status: 2, Cert: api.Cert{RowLo: nums(3, 0), RowHi: nums(0, 0), ColLo: nums(0), ColHi: nums(3)}}, "infeasible / col x 0 3 / row r 3 0 / row s 0 0"},
		{read(t, "min 0 / col x 1 -inf inf / col y 0 2 3 / row r -inf 9 1 x 1 y"), api.Answer{Status: 3, Ray: api.Ray{X: []api.Rat{sample.Frac(-1, 2), rats(2)}, D: nums(-4, 0)}}, "unbounded / col x -1/2 -4 / col y 2 0"},
	} {
		s, e := driver.Report(k.m, k.a)
		if e != api.OK || s != lines(k.report) {
			t.Errorf("P28.2: Report(%v, %v) = %q, %d, want %q", k.m, k.a, s, e, k.report)
		}
		checkReport(t, k.m, k.a)
	}
}

func rats(n int) api.Rat { return sample.Frac(n, 1) }

// bigValue: 2^256 over 9, less 2^128 over 3.
func bigValue(t *testing.T, fourth, square string) string {
	t.Helper()
	third := read(t, "min "+square+"/3").Offset
	ninth := read(t, "min "+fourth+"/9").Offset
	v := digits(minus(ninth, third))
	if v == "" || v[0] == '-' {
		t.Fatalf("the value is %s", v)
	}
	return v
}

// reportAll: each answer that is known of m; it counts them, and the statuses of their bases.
func (c count) reportAll(t *testing.T, m api.Model, k trial.Known) {
	t.Helper()
	for _, a := range known(m, k) {
		checkReport(t, m, a)
		c[[]string{"none", "optimal", "infeasible", "unbounded"}[a.Status]]++
		for _, s := range slices.Concat(a.Basis.Cols, a.Basis.Rows) {
			c[[]string{"basic", "lower", "upper", "free"}[s]]++
		}
	}
}

// TestKnownReports: of answers that were made ahead of their models, not by simplex, and of such of all bases of small models, in their own units and in long ones.
func TestKnownReports(t *testing.T) {
	c := count{}
	for i, of := range trial.Samples() {
		c.reportAll(t, of.M, of.K)
		if i%4 == 0 {
			m, _ := sample.Stretched(of.M, api.Point{})
			a, _ := simplex.Solve(m)
			checkReport(t, m, a)
		}
	}
	for seed := range 150 {
		m := sample.Busy(seed)
		c.reportAll(t, m, trial.Of(m))
	}
	c.check(t, 30, "optimal", "infeasible", "unbounded", "basic", "lower", "upper", "free")
}

// TestLongReport: a number of very many digits.
func TestLongReport(t *testing.T) {
	many := strings.Repeat("1234567891", 900)
	m := read(t, "min -"+many+"/2 / col x 1 "+many+" inf / row r -inf -"+many+" -1 x")
	a := answered(t, m, nil)
	checkReport(t, m, a)
	s, e := driver.Report(m, a)
	if e != api.OK || !strings.Contains(s, "\ncol x "+many+" ") {
		t.Errorf("P28.2: Report of long numbers = %q, %d", s, e)
	}
}

// TestNoReport: ErrPoint just where Judge says that it is no answer; of a model that is not well formed its own error, whatever the answer.
func TestNoReport(t *testing.T) {
	wrong := 0
	check := func(m api.Model, a api.Answer) {
		t.Helper()
		if is, _ := simplex.Judge(m, a); is {
			checkReport(t, m, a)
			return
		}
		wrong++
		if s, e := driver.Report(m, a); s != "" || e != api.ErrPoint {
			t.Fatalf("P28.2: Report(%v, %v) = %q, %d, but it is no answer", m, a, s, e)
		}
	}
	all := endings()
	for i, k := range all {
		m := read(t, k.text)
		a := answered(t, m, k.script)
		for _, other := range trial.Wrongs(a) {
			check(m, other)
		}
		check(m, api.Answer{})
		check(m, answered(t, read(t, all[(i+5)%len(all)].text), nil))
	}
	if wrong < 700 {
		t.Errorf("only %d answers that are none were tried", wrong)
	}
	right := answered(t, sample.Three(), nil)
	for _, b := range sample.Brokens() {
		for _, a := range []api.Answer{right, {}, {Status: 1, Value: api.Rat{Neg: true}, Ray: api.Ray{X: nums(1)}}, {Status: 9}} {
			if s, e := driver.Report(b.M, a); s != "" || e != b.E {
				t.Errorf("P28.2: %s: Report(%v) = %q, %d, want %d", b.Name, a, s, e, b.E)
			}
		}
	}
}
