package post_test

import (
	"math/rand/v2"
	"slices"
	"strconv"
	"strings"
	"testing"

	"tableau/api"
	"tableau/point"
	"tableau/post"
	"tableau/presolve"
	"tableau/rat"
	"tableau/sample"
	"tableau/simplex"
	"tableau/text"
	"tableau/trial"
)

func sameRat(a, b api.Rat) bool {
	return a.Neg == b.Neg && slices.Equal(a.Num, b.Num) && slices.Equal(a.Den, b.Den)
}

func sameRats(x, y []api.Rat) bool { return slices.EqualFunc(x, y, sameRat) }

func samePoint(p, q api.Point) bool {
	return sameRats(p.X, q.X) && sameRats(p.Y, q.Y) && sameRats(p.Z, q.Z)
}

func sameBasis(b, c api.Basis) bool {
	return slices.Equal(b.Cols, c.Cols) && slices.Equal(b.Rows, c.Rows)
}

func sameCert(c, d api.Cert) bool {
	return sameRats(c.RowLo, d.RowLo) && sameRats(c.RowHi, d.RowHi) && sameRats(c.ColLo, d.ColLo) && sameRats(c.ColHi, d.ColHi)
}

func sameRay(r, s api.Ray) bool { return sameRats(r.X, s.X) && sameRats(r.D, s.D) }

func sameAnswer(a, b api.Answer) bool {
	return a.Status == b.Status && sameRat(a.Value, b.Value) && samePoint(a.Point, b.Point) && sameBasis(a.Basis, b.Basis) && sameCert(a.Cert, b.Cert) && sameRay(a.Ray, b.Ray)
}

// read: the model of a text whose lines are cut by /, with end as the last one; a fraction's / stands between digits.
func read(t *testing.T, s string) api.Model {
	t.Helper()
	m, at, e := text.Parse(strings.ReplaceAll(s, " / ", "\n") + "\nend\n")
	if e != api.OK {
		t.Fatalf("%q is no model: %d at %d", s, e, at)
	}
	return m
}

// nums: whole numbers.
func nums(l ...int) []api.Rat {
	var x []api.Rat
	for _, n := range l {
		x = append(x, sample.Frac(n, 1))
	}
	return x
}

// filled: so many times one thing.
func filled[T any](n int, r T) []T { return slices.Repeat([]T{r}, n) }

func run(t *testing.T, m api.Model, script ...int) presolve.Result {
	t.Helper()
	r, e := presolve.Run(m, script)
	if e != api.OK {
		t.Fatalf("Run(%v) of %v: %d", script, m, e)
	}
	return r
}

func auto(t *testing.T, m api.Model, limit int) presolve.Result {
	t.Helper()
	r, _, e := presolve.Auto(m, limit)
	if e != api.OK {
		t.Fatalf("Auto(%d) of %v: %d", limit, m, e)
	}
	return r
}

// drawnScript: up to so many codes.
func drawnScript(seed, most int) []int {
	g := rand.New(rand.NewPCG(uint64(seed), 31))
	var out []int
	for range g.IntN(most + 1) {
		out = append(out, 1+g.IntN(7))
	}
	return out
}

// answers: all that are made of what is known of m; not from simplex alone: of a small model each optimal basis is among them, sums of certificates and multiples of them, and each point with each direction in which the value falls.
func answers(m api.Model, k trial.Known) []api.Answer {
	var out []api.Answer
	for _, c := range k.Bases {
		v, _ := point.Value(m, c.Point.X)
		out = append(out, api.Answer{Status: api.Optimal, Value: v, Point: c.Point, Basis: c.Basis})
	}
	for i, c := range k.Certs {
		out = append(out, api.Answer{Status: api.Infeasible, Cert: c}, api.Answer{Status: api.Infeasible, Cert: added(c, k.Certs[(i+1)%len(k.Certs)])})
	}
	falls := func(d []api.Rat) bool {
		m.Offset = rat.Of(0)
		v, _ := point.Value(m, d)
		return v.Neg
	}
	for i, d := range k.Dirs {
		if len(k.Points) > 0 && falls(d) {
			out = append(out, api.Answer{Status: api.Unbounded, Ray: api.Ray{X: k.Points[(3*i)%len(k.Points)], D: d}})
		}
	}
	return out
}

// added: 3/2 times c, and d.
func added(c, d api.Cert) api.Cert {
	sum := func(x, y []api.Rat) []api.Rat {
		var out []api.Rat
		for i := range x {
			more, _ := rat.Mul(sample.Frac(3, 2), x[i])
			both, _ := rat.Add(more, y[i])
			out = append(out, both)
		}
		return out
	}
	return api.Cert{RowLo: sum(c.RowLo, d.RowLo), RowHi: sum(c.RowHi, d.RowHi), ColLo: sum(c.ColLo, d.ColLo), ColHi: sum(c.ColHi, d.ColHi)}
}

// A count is how often each thing was tried.
type count map[string]int

func (c count) check(t *testing.T, least int, names ...string) {
	t.Helper()
	for _, name := range names {
		if c[name] < least {
			t.Errorf("only %d of %s were tried", c[name], name)
		}
	}
}

// things: each outcome with each status of the answer.
func things() []string {
	return []string{"Went: 1", "Went, tightened: 1", "Went: 2", "Went, tightened: 2", "Went: 3", "Went, tightened: 3", "Empty: 0", "Pending: 1", "Pending: 2"}
}

// finished: Finish answers an answer of m, and what the chapter says of the outcome. It wants an r that a script made of m, and of Went and Pending an answer of what is left.
func (c count) finished(t *testing.T, m api.Model, r presolve.Result, a api.Answer) api.Answer {
	t.Helper()
	o, e := post.Finish(m, r, a)
	if is, f := simplex.Judge(m, o); e != api.OK || f != api.OK || !is {
		t.Fatalf("P27.1: of %v, of which %v is left: Finish(%v) = %v, %d: no answer", m, r, a, o, e)
	}
	fault := ""
	switch r.Outcome.Kind {
	case api.Went:
		name := "Went: "
		if r.Stack.Tightened() {
			name = "Went, tightened: "
		}
		c[name+strconv.Itoa(a.Status)]++
		fault = wentFault(r, a, o)
	case api.Empty:
		c["Empty: 0"]++
		cert, _ := r.Stack.Cert(r.Outcome.Cert)
		if !sameAnswer(o, api.Answer{Status: api.Infeasible, Cert: cert}) {
			fault = "it is not the outcome's certificate, taken back"
		}
	case api.Pending:
		c["Pending: "+strconv.Itoa(a.Status)]++
		fault = pendingFault(r, a, o)
	}
	if fault != "" {
		t.Fatalf("P27.1, P27.2: of %v, of which %v is left: Finish(%v) = %v: %s", m, r, a, o, fault)
	}
	return o
}

func wentFault(r presolve.Result, a, o api.Answer) string {
	switch {
	case o.Status != a.Status:
		return "another status"
	case !sameRat(o.Value, a.Value):
		return "another value"
	case a.Status != api.Optimal:
		return ""
	}
	b, p, e := r.Stack.Basis(a.Basis, a.Point)
	if r.Stack.Tightened() != (e == api.ErrPass) {
		return "the stack answers " + strconv.Itoa(int(e))
	}
	if e == api.OK && !(sameBasis(o.Basis, b) && samePoint(o.Point, p)) {
		return "basis and point are not what the stack answers"
	}
	return ""
}

func pendingFault(r presolve.Result, a, o api.Answer) string {
	want := api.Answer{Status: api.Infeasible}
	if a.Status == api.Optimal {
		want.Status = api.Unbounded
		want.Ray.X, _ = r.Stack.Primal(a.Point.X)
		want.Ray.D, _ = r.Stack.Lift(r.Outcome.D)
	} else {
		want.Cert, _ = r.Stack.Cert(a.Cert)
	}
	if !sameAnswer(o, want) {
		return "it is not what the stack takes back"
	}
	return ""
}

// all: with each answer that is known of what is left, and that of simplex; and the status and the value are those of m.
func (c count) all(t *testing.T, m api.Model, r presolve.Result) {
	t.Helper()
	list := []api.Answer{{}}
	if r.Outcome.Kind != api.Empty {
		a, _ := simplex.Solve(r.Model)
		list = append(answers(r.Model, trial.Of(r.Model)), a)
	}
	solved, _ := simplex.Solve(m)
	for _, a := range list[max(len(list)-40, 0):] {
		if o := c.finished(t, m, r, a); o.Status != solved.Status || !sameRat(o.Value, solved.Value) {
			t.Fatalf("P3: of %v: the status %d and the value %v, where simplex has %d and %v", m, o.Status, o.Value, solved.Status, solved.Value)
		}
	}
}
