package twin_test

import (
	"math/big"
	"math/rand/v2"
	"slices"
	"strconv"
	"testing"

	"tableau/api"
	"tableau/model"
	"tableau/trial"
	"tableau/twin"
)

// factors: numbers of either sign, long ones too, none of them 0.
func factors() []*big.Rat {
	long, _ := new(big.Rat).SetString("-36893488147419103233/340282366920938463463374607431768211507")
	huge, _ := new(big.Rat).SetString("115792089237316195423570985008687907853269984665640564039457584007913129639937/5")
	return []*big.Rat{big.NewRat(1, 1), big.NewRat(-1, 1), big.NewRat(3, 2), big.NewRat(-2, 7), long, huge}
}

// A grower puts multiples of rows into a model, which a sweep takes out again.
type grower struct {
	*rand.Rand
	m api.Model
}

// apart: a bound made of two, the stricter of which it is: the row's own, and the one that comes from its multiple; away says in which direction they are looser.
func (g *grower) apart(bound *big.Rat, away int64) (own, other *big.Rat) {
	if bound == nil {
		return nil, nil
	}
	var looser *big.Rat
	if g.IntN(2) == 0 {
		looser = sum(bound, big.NewRat(away, 3))
	}
	switch g.IntN(3) {
	case 0:
		return bound, looser
	case 1:
		return looser, bound
	}
	return bound, bound
}

// put: a multiple of a row, somewhere behind it; of one without terms there is none.
func (g *grower) put(name string) {
	i := g.IntN(len(g.m.Rows))
	first := &g.m.Rows[i]
	if len(first.Terms) == 0 {
		return
	}
	l := factors()[g.IntN(len(factors()))]
	lo, least := g.apart(toBound(first.Lo), -1)
	hi, most := g.apart(toBound(first.Hi), 1)
	first.Lo, first.Hi = fromBound(lo, -1), fromBound(hi, 1)
	r := row(name, [2]*big.Rat{least, most}, l)
	for _, t := range first.Terms {
		r.Terms = append(r.Terms, api.Term{Col: t.Col, A: fromBig(product(toBig(t.A), l))})
	}
	g.m.Rows = slices.Insert(g.m.Rows, i+1+g.IntN(len(g.m.Rows)-i), r)
}

// grow: a model of which a sweep leaves m, unless rows of m are multiples of others.
func grow(m api.Model, seed uint64) api.Model {
	g := grower{Rand: rand.New(rand.NewPCG(seed, 25))}
	g.m, _ = model.Copy(m)
	for i := range 1 + g.IntN(4) {
		g.put("g" + strconv.Itoa(i))
	}
	return g.m
}

// TestGrown: what is known of a model, not from simplex, is taken back to models of which that one is left.
func TestGrown(t *testing.T) {
	c := count{}
	for i, k := range trial.Samples() {
		if len(k.M.Cols) > 20 || len(k.M.Rows) == 0 {
			continue
		}
		for turn := range 4 {
			m := grow(k.M, uint64(4*i+turn))
			want, gone := swept(m)
			if same, _ := model.Equal(want, k.M); !same {
				c["others"]++
				continue
			}
			s := fresh(m)
			r, o, e := twin.Sweep(m, s)
			if same, _ := model.Equal(r, want); e != api.OK || o.Kind != api.Went || !same {
				t.Fatalf("P23.1: of %v: %v, %d, %d, want %v", m, r, o.Kind, e, want)
			}
			if fault := trial.Fault(m, r, s, k.K); fault != "" {
				t.Fatalf("P23.2: of %v: %s", m, fault)
			}
			c["steps"] += len(gone)
			c.tally(k.K)
		}
	}
	c.check(t, 100)
	if c["others"] > c["steps"]/4 {
		t.Errorf("%d models left another one", c["others"])
	}
}
