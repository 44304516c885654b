package pairup_test

import (
	"math/big"
	"math/rand/v2"
	"slices"
	"strconv"
	"testing"

	"tableau/api"
	"tableau/model"
	"tableau/pairup"
	"tableau/trial"
)

// factors: numbers of either sign, long ones too, none of them 0.
func factors() []*big.Rat {
	long, _ := new(big.Rat).SetString("-36893488147419103233/340282366920938463463374607431768211507")
	huge, _ := new(big.Rat).SetString("115792089237316195423570985008687907853269984665640564039457584007913129639937/5")
	return []*big.Rat{big.NewRat(1, 1), big.NewRat(-1, 1), big.NewRat(3, 2), big.NewRat(-2, 7), long, huge}
}

// A grower puts equations into a model, each with a column that it tells, which a sweep takes out again.
type grower struct {
	*rand.Rand
	m api.Model
}

func (g *grower) factor() *big.Rat { return factors()[g.IntN(len(factors()))] }

// number: it may be 0.
func (g *grower) number() *big.Rat {
	if g.IntN(3) == 0 {
		return new(big.Rat)
	}
	return g.factor()
}

// apart: a bound of column k made of two: k's own, and the one that comes from j, the stricter of which it is; away says in which direction they are looser.
func (g *grower) apart(bound *big.Rat, away int64) (own, end *big.Rat) {
	if bound == nil {
		return nil, nil
	}
	var looser *big.Rat
	if g.IntN(2) == 0 {
		looser = sum(bound, big.NewRat(away, 3))
	}
	switch g.IntN(3) {
	case 0:
		return bound, looser
	case 1:
		return looser, bound
	}
	return bound, bound
}

// put: a column ahead of an other one, told by an equation at that row's place. How that is seen in the other rows, in the costs and in the bounds is the chapter's, from its end to its beginning.
func (g *grower) put(name string, place int) {
	j := g.IntN(len(g.m.Cols))
	k := j + 1 + g.IntN(len(g.m.Cols)-j)
	r, a, b, cost := g.number(), g.factor(), g.factor(), g.number()
	g.m.Cols = slices.Insert(g.m.Cols, j, api.Col{Name: name, Cost: fromBig(cost)})
	g.m.Offset = fromBig(less(toBig(g.m.Offset), ratio(product(cost, r), a)))
	first, second := &g.m.Cols[j], &g.m.Cols[k]
	second.Cost = fromBig(sum(toBig(second.Cost), ratio(product(cost, b), a)))
	lo, lesser := g.apart(toBound(second.Lo), -1)
	hi, greater := g.apart(toBound(second.Hi), 1)
	second.Lo, second.Hi = fromBound(lo, -1), fromBound(hi, 1)
	if ratio(a, b).Sign() > 0 {
		lesser, greater = greater, lesser
	}
	first.Lo, first.Hi = fromBound(told(r, a, b, lesser), -1), fromBound(told(r, a, b, greater), 1)
	n := len(g.m.Cols)
	for i := range g.m.Rows {
		row := &g.m.Rows[i]
		x := slices.Insert(dense(row.Terms, n-1), j, new(big.Rat))
		if q := g.number(); g.IntN(2) == 0 {
			x[j], x[k] = q, sum(x[k], ratio(product(q, b), a))
			by := ratio(product(q, r), a)
			row.Lo, row.Hi = moved(row.Lo, by), moved(row.Hi, by)
		}
		row.Terms = sparse(x)
	}
	equation := api.Row{Name: name, Lo: api.Ext{V: fromBig(r)}, Hi: api.Ext{V: fromBig(r)}, Terms: []api.Term{{Col: j, A: fromBig(a)}, {Col: k, A: fromBig(b)}}}
	g.m.Rows = slices.Insert(g.m.Rows, place, equation)
}

// grow: a model of which a sweep leaves m, unless equations of two terms come of m's own rows. The last equation that is put in stands ahead of the others: it is the first one that goes.
func grow(m api.Model, seed uint64) api.Model {
	g := grower{Rand: rand.New(rand.NewPCG(seed, 21))}
	g.m, _ = model.Copy(m)
	place := len(m.Rows)
	for i := range 1 + g.IntN(4) {
		place = g.IntN(place + 1)
		g.put("g"+strconv.Itoa(i), place)
	}
	return g.m
}

// TestGrown: what is known of a model, not from simplex, is taken back to models of which that one is left.
func TestGrown(t *testing.T) {
	c := count{}
	for i, k := range trial.Samples() {
		if len(k.M.Cols) > 20 || len(k.M.Cols) == 0 {
			continue
		}
		for turn := range 4 {
			m := grow(k.M, uint64(4*i+turn))
			want, gone := swept(m)
			if same, _ := model.Equal(want, k.M); !same {
				c["others"]++
				continue
			}
			s := fresh(m)
			r, o, e := pairup.Sweep(m, s)
			if same, _ := model.Equal(r, want); e != api.OK || o.Kind != api.Went || !same {
				t.Fatalf("P21.1: of %v: %v, %d, %d, want %v", m, r, o.Kind, e, want)
			}
			if fault := trial.Fault(m, r, s, k.K); fault != "" {
				t.Fatalf("P21.2: of %v: %s", m, fault)
			}
			c["steps"] += len(gone)
			c.tally(k.K)
		}
	}
	c.check(t, 100)
	if c["others"] > c["steps"]/4 {
		t.Errorf("%d models left another one", c["others"])
	}
}
