package driver_test

import (
	"math"
	"slices"
	"strings"
	"testing"

	"tableau/api"
	"tableau/basis"
	"tableau/cross"
	"tableau/driver"
	"tableau/farkas"
	"tableau/point"
	"tableau/presolve"
	"tableau/rat"
	"tableau/ray"
	"tableau/sample"
	"tableau/simplex"
	"tableau/text"
	"tableau/trial"
)

func minus(a, b api.Rat) api.Rat {
	c, _ := rat.Sub(a, b)
	return c
}

// known: the answers that are made of what is known of m, without the solver where that was made ahead of the model.
func known(m api.Model, k trial.Known) []api.Answer {
	var out []api.Answer
	for _, c := range k.Bases {
		v, _ := point.Value(m, c.Point.X)
		out = append(out, api.Answer{Status: api.Optimal, Value: v, Point: c.Point, Basis: c.Basis})
	}
	for _, c := range k.Certs {
		out = append(out, api.Answer{Status: api.Infeasible, Cert: c})
	}
	for i, d := range k.Dirs {
		if len(k.Points) == 0 {
			break
		}
		a := api.Answer{Status: api.Unbounded, Ray: api.Ray{X: k.Points[i%len(k.Points)], D: d}}
		if is, _ := simplex.Judge(m, a); is {
			out = append(out, a)
		}
	}
	return out
}

// status: the status that is known of m, and the value.
func status(m api.Model, k trial.Known) (int, api.Rat) {
	switch {
	case len(k.Kkts) > 0:
		v, _ := point.Value(m, k.Kkts[0].X)
		return api.Optimal, v
	case len(k.Certs) > 0:
		return api.Infeasible, api.Rat{}
	}
	return api.Unbounded, api.Rat{}
}

// TestKnown: P3 to P5 of models whose status and value are known ahead, the largest among them, by scripts of each kind.
func TestKnown(t *testing.T) {
	for i, of := range trial.Samples() {
		want, value := status(of.M, of.K)
		scripts := [][]int{nil, everyPass(), sample.Script(i, 8)}
		if len(of.M.Cols) < 20 {
			for code := 1; code <= 7; code++ {
				scripts = append(scripts, []int{code}, append(sample.Script(7*i+code, 4), 7))
			}
		}
		for _, script := range scripts {
			checkAnswer(t, of.M, script, want, value)
		}
	}
}

// TestDrawn: P3 to P5 of drawn models by drawn scripts, which end in each way.
func TestDrawn(t *testing.T) {
	c := count{}
	check := func(m api.Model, seed int) {
		a := answered(t, m, nil)
		for turn := range 4 {
			script := sample.Script(4*seed+turn, 7)
			if turn == 3 {
				script = append(script, 7)
			}
			checkAnswer(t, m, script, a.Status, a.Value)
			c.tell(t, m, script, a.Status)
		}
	}
	for seed := range 420 {
		check(sample.Busy(seed), seed)
		if seed%4 == 0 {
			check(sample.Mixed(seed), seed)
			check(sample.Drawn(seed), seed)
		}
		if seed%10 == 0 {
			m, _ := sample.Stretched(sample.Busy(seed), api.Point{})
			check(m, seed)
		}
	}
	for _, m := range sample.Models() {
		check(m, len(m.Cols))
	}
	c.check(t, 20, "Went 1", "Went 1 tightened", "Went 2", "Went 2 tightened", "Went 3", "Went 3 tightened", "Empty 2", "Pending 2", "Pending 3")
}

// tell counts how the script ends.
func (c count) tell(t *testing.T, m api.Model, script []int, status int) {
	t.Helper()
	r, e := presolve.Run(m, script)
	if e != api.OK {
		t.Fatalf("Run(%v, %v): %d", m, script, e)
	}
	name := []string{"none", "Went", "Empty", "Pending"}[r.Outcome.Kind] + []string{" 0", " 1", " 2", " 3"}[status]
	if r.Outcome.Kind == api.Went && r.Stack.Tightened() {
		name += " tightened"
	}
	c[name]++
}

// TestWayThereAndBack: P6 and P7 behind drawn scripts, at all that is known of what they leave.
func TestWayThereAndBack(t *testing.T) {
	for seed := range 350 {
		m, script := sample.Busy(seed), sample.Script(seed, 7)
		r, e := presolve.Run(m, script)
		if e != api.OK {
			t.Fatalf("Run(%v, %v): %d", m, script, e)
		}
		if _, fault := trial.Left(m, r.Model, r.Stack, r.Outcome); fault != "" {
			t.Fatalf("P6, P7: of %v by %v: %s", m, script, fault)
		}
	}
}

// TestToABasis: P8 behind scripts that tightened: from the KKT point of the model that the stack has, with hints of each kind.
func TestToABasis(t *testing.T) {
	c := count{}
	for seed := range 500 {
		m := sample.Busy(seed)
		r, _ := presolve.Run(m, append(sample.Script(seed, 3), 7, 7))
		left, _ := simplex.Solve(r.Model)
		if r.Outcome.Kind != api.Went || !r.Stack.Tightened() || left.Status != api.Optimal {
			continue
		}
		p, _ := r.Stack.Dual(left.Point)
		first := checkOver(t, m, p, left.Basis)
		own, _ := basis.Point(m, first)
		for _, hint := range []api.Basis{{}, first, {Cols: slices.Repeat([]api.Status{9}, len(m.Cols))}, {Rows: make([]api.Status, 70)}} {
			checkOver(t, m, p, hint)
			checkOver(t, m, own, hint)
		}
		c["tightened"]++
		if is, _ := basis.Optimal(m, left.Basis, p); !is {
			c["whose basis is none of the point"]++
		}
	}
	c.check(t, 30, "tightened", "whose basis is none of the point")
}

func checkOver(t *testing.T, m api.Model, p api.Point, hint api.Basis) api.Basis {
	t.Helper()
	b, q, e := cross.Over(m, p, hint)
	is, f := basis.Optimal(m, b, q)
	if e != api.OK || f != api.OK || !is {
		t.Fatalf("P8: Over(%v, %v, %v) = %v, %v, %d", m, p, hint, b, q, e)
	}
	v, _ := point.Value(m, p.X)
	if w, _ := point.Value(m, q.X); !sameRat(v, w) {
		t.Fatalf("P8: Over(%v, %v, %v) = %v, %v: another value", m, p, hint, b, q)
	}
	asked := api.Answer{Point: p, Basis: hint}
	if own, _ := basis.Optimal(m, hint, p); own && !trial.SameAnswer(asked, api.Answer{Point: q, Basis: b}) {
		t.Fatalf("P8: Over(%v, %v, %v) = %v, %v: the hint is an optimal basis of the point", m, p, hint, b, q)
	}
	return b
}

// TestTexts: P9: Text takes just the texts that Print answers, and tells of others what Parse does.
func TestTexts(t *testing.T) {
	c := count{}
	for _, m := range []api.Model{sample.Three(), sample.Busy(2), sample.Busy(4), read(t, endings()[7].text)} {
		s := printed(t, m)
		for at := range len(s) {
			for _, b := range []string{"", " ", "\n", "0", "1", "-", "/", "x", "inf", "A"} {
				for _, changed := range []string{s[:at] + b + s[at:], s[:at] + b + s[at+1:]} {
					c.text(t, changed)
				}
			}
		}
	}
	c.check(t, 50, "taken", "refused")
}

func (c count) text(t *testing.T, s string) {
	t.Helper()
	a, at, e := driver.Text(s, nil)
	m, place, f := text.Parse(s)
	if at != place || e != f {
		t.Fatalf("P28.1: Text(%q): %d at %d, where Parse has %d at %d", s, e, at, f, place)
	}
	if e != api.OK {
		c["refused"]++
		if !isNothing(a) {
			t.Fatalf("P28.1: Text(%q): %v beside the error %d", s, a, e)
		}
		return
	}
	c["taken"]++
	if is, _ := simplex.Judge(m, a); !is || printed(t, m) != s {
		t.Fatalf("P9, P28.1: Text(%q) = %v", s, a)
	}
}

// TestJudged: P10: what simplex.Judge says of an answer is what the checkers of its parts say, whatever is wrong with it.
func TestJudged(t *testing.T) {
	c := count{}
	for seed := range 60 {
		m := sample.Busy(seed)
		for _, a := range trial.Wrongs(answered(t, m, nil)) {
			want := false
			switch bare := a; a.Status {
			case api.Optimal:
				is, _ := basis.Optimal(m, a.Basis, a.Point)
				v, _ := point.Value(m, a.Point.X)
				bare.Cert, bare.Ray = api.Cert{}, api.Ray{}
				want = is && sameRat(v, a.Value) && trial.SameAnswer(a, bare)
			case api.Infeasible:
				is, _ := farkas.Valid(m, a.Cert)
				want = is && trial.SameAnswer(a, api.Answer{Status: a.Status, Cert: a.Cert})
			case api.Unbounded:
				is, _ := ray.Valid(m, a.Ray)
				want = is && trial.SameAnswer(a, api.Answer{Status: a.Status, Ray: a.Ray})
			}
			if is, e := simplex.Judge(m, a); is != want || e != api.OK {
				t.Fatalf("P10: Judge(%v, %v) = %v, %d", m, a, is, e)
			}
			if want {
				c["right"]++
			} else {
				c["wrong"]++
			}
		}
	}
	c.check(t, 30, "wrong", "right")
}

// TestEverything: P1: arguments of any form; each call ends, and beside an error stands nothing.
func TestEverything(t *testing.T) {
	scripts := [][]int{nil, {}, {math.MinInt}, {math.MaxInt, 1}, make([]int, 3), {1, 2, 3, 4, 5, 6, 7}, {3, 3, 7, 7}}
	for _, script := range scripts {
		for _, b := range sample.Brokens() {
			a, e := driver.Solve(b.M, script)
			if s, f := driver.Report(b.M, a); e == api.OK || !isNothing(a) || s != "" || f == api.OK {
				t.Errorf("P1: %s: %v, %d; %q, %d", b.Name, a, e, s, f)
			}
		}
		for _, s := range []string{"", "\x00", "\xff\xfe", strings.Repeat("\n", 5000), strings.Repeat("min 0\n", 99), strings.Repeat(" ", api.MaxText+1), "min 0\nend\n", "min 0\nend\nmin 0\nend\n", "é"} {
			a, at, e := driver.Text(s, script)
			if e != api.OK && !isNothing(a) || at < 0 || at > len(s) || e < 0 || e > api.ErrPass {
				t.Errorf("P1: Text(%.40q, %v): %v, %d at %d", s, script, a, e, at)
			}
		}
	}
}

// TestAlike: P2: the same arguments are answered alike.
func TestAlike(t *testing.T) {
	for seed := range 150 {
		m, script := sample.Busy(seed), sample.Script(seed, 6)
		first := answered(t, m, script)
		if second := answered(t, m, script); !trial.SameAnswer(first, second) {
			t.Fatalf("P2: Solve(%v, %v) = %v, then %v", m, script, first, second)
		}
		again, _ := text.Print(m)
		if other, _, e := driver.Text(again, script); e != api.OK || !trial.SameAnswer(first, other) {
			t.Fatalf("P2: Text of %v by %v: %v, where Solve has %v", m, script, other, first)
		}
	}
}
