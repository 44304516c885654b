package simplex_test

import (
	"math"
	"math/big"
	"slices"
	"testing"

	"tableau/api"
	"tableau/sample"
	"tableau/simplex"
)

// A shown model has an answer that shows itself.
type shown struct {
	m api.Model
	a api.Answer
}

// answers: right ones of each status, with basis, certificate and ray made ahead of the model; without columns, without rows, and as large as may be.
func answers() []shown {
	out := []shown{{api.Model{Offset: sample.Frac(3, 2)}, api.Answer{Status: api.Optimal, Value: sample.Frac(3, 2)}}}
	for _, k := range sample.Bases() {
		out = append(out, shown{k.M, api.Answer{Status: api.Optimal, Value: fromBig(valueOf(k.M, k.P.X)), Point: k.P, Basis: k.B}})
	}
	for _, k := range sample.Certs() {
		out = append(out, shown{k.M, api.Answer{Status: api.Infeasible, Cert: k.C}})
	}
	for _, k := range sample.Rays() {
		out = append(out, shown{k.M, api.Answer{Status: api.Unbounded, Ray: k.R}})
	}
	return out
}

func checkJudge(t *testing.T, name string, m api.Model, a api.Answer, want bool) {
	t.Helper()
	if is, e := simplex.Judge(m, a); e != api.OK || is != want {
		t.Errorf("P16.1: Judge, %s: %v, %d, want %v: %v of %v", name, is, e, want, a, m)
	}
}

// A count tells how many candidates are answers, and how many aren't.
type count struct{ yes, no int }

// checkLike holds Judge against the definitions.
func (c *count) checkLike(t *testing.T, name string, m api.Model, a api.Answer) {
	t.Helper()
	want := isAnswer(m, a)
	checkJudge(t, name, m, a, want)
	if want {
		c.yes++
	} else {
		c.no++
	}
}

func (c *count) enough(t *testing.T, yes, no int) {
	t.Helper()
	if c.yes < yes || c.no < no {
		t.Errorf("%d candidates are answers, %d aren't: too few are tried", c.yes, c.no)
	}
}

// TestRight: right answers, also with lists without elements that are not nil.
func TestRight(t *testing.T) {
	for _, k := range answers() {
		checkJudge(t, "a right answer", k.m, k.a, true)
		if len(k.m.Rows) < 20 && !isAnswer(k.m, k.a) {
			t.Errorf("%v is no answer of %v", k.a, k.m)
		}
		a := copied(k.a)
		for _, list := range rats(&a) {
			*list = append([]api.Rat{}, *list...)
		}
		for _, list := range statuses(&a) {
			*list = append([]api.Status{}, *list...)
		}
		if a.Status != api.Optimal {
			a.Value.Num, a.Value.Den = []uint64{}, make([]uint64, 0, 3)
		}
		checkJudge(t, "empty lists", k.m, a, true)
	}
}

// TestStatus: each other status, and those that are none.
func TestStatus(t *testing.T) {
	for _, k := range answers() {
		for _, s := range []int{0, 1, 2, 3, 4, -1, -2, 256, math.MaxInt, math.MinInt} {
			a := k.a
			a.Status = s
			checkJudge(t, "another status", k.m, a, s == k.a.Status)
			checkJudge(t, "a status alone", k.m, api.Answer{Status: s}, false)
		}
		checkJudge(t, "nothing", k.m, api.Answer{}, false)
	}
	nothing := api.Model{Offset: sample.Frac(0, 1)}
	for s := -1; s <= 4; s++ {
		checkJudge(t, "of nothing", nothing, api.Answer{Status: s}, false)
		checkJudge(t, "of nothing, with a value", nothing, api.Answer{Status: s, Value: sample.Frac(0, 1)}, s == api.Optimal)
	}
}

// unform: the same number, in ways that are not in form.
func unform(r api.Rat) []api.Rat {
	three := func(a []uint64) []uint64 { return limbs(new(big.Int).Mul(toInt(a), big.NewInt(3))) }
	return []api.Rat{
		{Neg: r.Neg, Num: append(slices.Clone(r.Num), 0), Den: r.Den},
		{Neg: r.Neg, Num: r.Num, Den: append(slices.Clone(r.Den), 0)},
		{Neg: r.Neg, Num: three(r.Num), Den: three(r.Den)},
	}
}

func moved(r api.Rat, by *big.Rat) api.Rat { return fromBig(new(big.Rat).Add(toBig(r), by)) }

func steps() []*big.Rat {
	return []*big.Rat{big.NewRat(1, 1<<40), big.NewRat(-1, 1<<40), big.NewRat(7, 3), big.NewRat(-7, 3)}
}

// TestValue: of an optimal answer another one, none, and one that is not in form.
func TestValue(t *testing.T) {
	for _, k := range answers() {
		if k.a.Status != api.Optimal {
			continue
		}
		a := k.a
		for _, by := range steps() {
			a.Value = moved(k.a.Value, by)
			checkJudge(t, "another value", k.m, a, false)
		}
		for _, a.Value = range append(sample.BadRats(), unform(k.a.Value)...) {
			checkJudge(t, "a value not in form", k.m, a, false)
		}
		if offset := k.m.Offset; !sameRat(offset, k.a.Value) {
			a.Value = offset
			checkJudge(t, "the offset", k.m, a, false)
		}
		if len(k.a.Value.Num) > 0 {
			a.Value = api.Rat{Neg: !k.a.Value.Neg, Num: k.a.Value.Num, Den: k.a.Value.Den}
			checkJudge(t, "the other sign", k.m, a, false)
		}
	}
}

// TestStatuses: each status of the basis otherwise: of that point it may still be a basis.
func TestStatuses(t *testing.T) {
	var c count
	for _, k := range answers() {
		for i, list := range statuses(&k.a) {
			for place := range *list {
				for s := api.Status(-1); s <= 4 && len(k.m.Rows) < 20; s++ {
					a := copied(k.a)
					(*statuses(&a)[i])[place] = s
					c.checkLike(t, "another status in the basis", k.m, a)
				}
			}
		}
	}
	c.enough(t, 100, 500)
}

// TestNumbers: each number of the point, of the certificate and of the ray otherwise.
func TestNumbers(t *testing.T) {
	var c count
	for _, k := range answers() {
		for i, list := range rats(&k.a) {
			for place, r := range *list {
				if len(k.m.Rows) > 20 && place > 2 {
					break
				}
				for _, by := range steps() {
					a := copied(k.a)
					(*rats(&a)[i])[place] = moved(r, by)
					if a.Status == api.Optimal {
						checkJudge(t, "another number in the point", k.m, a, false)
					} else {
						c.checkLike(t, "another number", k.m, a)
					}
				}
				for _, bad := range append(sample.BadRats(), unform(r)...) {
					a := copied(k.a)
					(*rats(&a)[i])[place] = bad
					checkJudge(t, "a number not in form", k.m, a, false)
				}
			}
		}
	}
	c.enough(t, 100, 1000)
}

// TestLists: each list that the status names shorter, longer and nil.
func TestLists(t *testing.T) {
	for _, k := range answers() {
		check := func(name string, turn func(a *api.Answer)) {
			t.Helper()
			a := copied(k.a)
			turn(&a)
			checkJudge(t, name, k.m, a, false)
		}
		for i, list := range rats(&k.a) {
			for _, more := range []api.Rat{sample.Frac(0, 1), sample.Frac(1, 1), {}} {
				check("a number too many", func(a *api.Answer) { *rats(a)[i] = append(*rats(a)[i], more) })
			}
			if len(*list) > 0 {
				check("the first number too few", func(a *api.Answer) { *rats(a)[i] = (*rats(a)[i])[1:] })
				check("the last number too few", func(a *api.Answer) { *rats(a)[i] = (*rats(a)[i])[:len(*list)-1] })
				check("no numbers", func(a *api.Answer) { *rats(a)[i] = nil })
			}
		}
		for i, list := range statuses(&k.a) {
			for s := api.Status(-1); s <= 4; s++ {
				check("a status too many", func(a *api.Answer) { *statuses(a)[i] = append(*statuses(a)[i], s) })
			}
			if len(*list) > 0 {
				check("the first status too few", func(a *api.Answer) { *statuses(a)[i] = (*statuses(a)[i])[1:] })
				check("the last status too few", func(a *api.Answer) { *statuses(a)[i] = (*statuses(a)[i])[:len(*list)-1] })
				check("no statuses", func(a *api.Answer) { *statuses(a)[i] = nil })
			}
		}
	}
}

// TestBare: right answers beside which another field has no zero value, be it the right one of another model.
func TestBare(t *testing.T) {
	for _, k := range answers() {
		n, rows, nought := len(k.m.Cols), len(k.m.Rows), sample.Frac(0, 1)
		check := func(name string, turn func(a *api.Answer)) {
			t.Helper()
			a := copied(k.a)
			turn(&a)
			checkJudge(t, name, k.m, a, false)
		}
		for i, list := range rats(&k.a) {
			size := []int{n, rows, n, rows, rows, n, n, n, n}[i]
			if len(*list) == 0 && size > 0 {
				check("a list of noughts", func(a *api.Answer) { *rats(a)[i] = filled(size, nought) })
				check("a list of nothing", func(a *api.Answer) { *rats(a)[i] = filled(size, api.Rat{}) })
			}
		}
		if k.a.Status == api.Optimal {
			continue
		}
		for _, v := range append(sample.BadRats(), sample.Rats()...) {
			if v.Neg || len(v.Num)+len(v.Den) > 0 {
				check("a value", func(a *api.Answer) { a.Value = v })
			}
		}
		check("statuses of columns", func(a *api.Answer) { a.Basis.Cols = slackOf(k.m).Cols; a.Basis.Cols = append(a.Basis.Cols, api.Lower) })
		check("a status of a row", func(a *api.Answer) { a.Basis.Rows = []api.Status{api.Basic} })
		check("a slack basis", func(a *api.Answer) { a.Basis = slackOf(k.m) })
	}
}

// TestOther: answers of other models, and of this one with something in it otherwise.
func TestOther(t *testing.T) {
	var c count
	list := answers()
	for i, k := range list {
		if len(k.m.Rows) > 20 {
			continue
		}
		for _, other := range list[max(i-5, 0):min(i+5, len(list))] {
			if len(other.m.Rows) < 20 {
				c.checkLike(t, "another model's answer", k.m, other.a)
			}
		}
		for j := range k.m.Cols {
			m := k.m
			m.Cols = slices.Clone(m.Cols)
			m.Cols[j].Lo = sample.At(-j)
			c.checkLike(t, "another bound", m, k.a)
			m.Cols[j].Lo, m.Cols[j].Hi = k.m.Cols[j].Lo, sample.At(j)
			c.checkLike(t, "another bound", m, k.a)
			m.Cols[j].Hi, m.Cols[j].Cost = k.m.Cols[j].Hi, sample.Frac(j, 3)
			c.checkLike(t, "another cost", m, k.a)
		}
	}
	c.enough(t, 300, 1000)
}
