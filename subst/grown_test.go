package subst_test

import (
	"math/big"
	"math/rand/v2"
	"slices"
	"strconv"
	"testing"

	"tableau/api"
	"tableau/model"
	"tableau/sample"
	"tableau/subst"
	"tableau/trial"
)

// factors: numbers of either sign, long ones too, none of them 0.
func factors() []*big.Rat {
	long, _ := new(big.Rat).SetString("-36893488147419103233/340282366920938463463374607431768211507")
	huge, _ := new(big.Rat).SetString("115792089237316195423570985008687907853269984665640564039457584007913129639937/5")
	return []*big.Rat{big.NewRat(1, 1), big.NewRat(-1, 1), big.NewRat(3, 2), big.NewRat(-2, 7), long, huge}
}

// A grower puts equations into a model, each with a free column that it tells, which a sweep takes out again.
type grower struct {
	*rand.Rand
	m api.Model
}

func (g *grower) factor() *big.Rat { return factors()[g.IntN(len(factors()))] }

// number: it may be 0.
func (g *grower) number() *big.Rat {
	if g.IntN(3) == 0 {
		return new(big.Rat)
	}
	return g.factor()
}

// equation: coefficients for one, in which column j is the first free one.
func (g *grower) equation(j int) []*big.Rat {
	e := make([]*big.Rat, len(g.m.Cols))
	for k, c := range g.m.Cols {
		e[k] = new(big.Rat)
		if k > j || !isFree(c) {
			e[k] = g.number()
		}
	}
	e[j] = g.factor()
	return e
}

// put: a free column, told by an equation at that row's place. How that is seen in the other rows and in the costs is the chapter's, from its end to its beginning. An equation ahead of that place gets no term of the column: it would tell it.
func (g *grower) put(name string, place int) {
	j := g.IntN(len(g.m.Cols) + 1)
	r, cost := g.number(), g.number()
	g.m.Cols = slices.Insert(g.m.Cols, j, api.Col{Name: name, Lo: sample.Low(), Hi: sample.High()})
	e := g.equation(j)
	for k := range g.m.Cols {
		c := &g.m.Cols[k]
		if k != j {
			c.Cost = fromBig(sum(toBig(c.Cost), ratio(product(cost, e[k]), e[j])))
		}
	}
	g.m.Cols[j].Cost = fromBig(cost)
	g.m.Offset = fromBig(less(toBig(g.m.Offset), ratio(product(cost, r), e[j])))
	for i := range g.m.Rows {
		row := &g.m.Rows[i]
		x := slices.Insert(dense(row.Terms, len(g.m.Cols)-1), j, new(big.Rat))
		if q := g.number(); g.IntN(2) == 0 && (i >= place || !isEquation(*row)) {
			for k := range x {
				x[k] = sum(x[k], ratio(product(q, e[k]), e[j]))
			}
			by := ratio(product(q, r), e[j])
			row.Lo, row.Hi = moved(row.Lo, by), moved(row.Hi, by)
		}
		row.Terms = sparse(x)
	}
	g.m.Rows = slices.Insert(g.m.Rows, place, api.Row{Name: name, Lo: api.Ext{V: fromBig(r)}, Hi: api.Ext{V: fromBig(r)}, Terms: sparse(e)})
}

// grow: a model of which a sweep leaves m, unless m's own equations have free columns. The last equation that is put in stands ahead of the others: it is the first one that goes.
func grow(m api.Model, seed uint64) api.Model {
	g := grower{Rand: rand.New(rand.NewPCG(seed, 22))}
	g.m, _ = model.Copy(m)
	place := len(m.Rows)
	for i := range 1 + g.IntN(4) {
		place = g.IntN(place + 1)
		g.put("g"+strconv.Itoa(i), place)
	}
	return g.m
}

// TestGrown: what is known of a model, not from simplex, is taken back to models of which that one is left.
func TestGrown(t *testing.T) {
	c := count{}
	for i, k := range trial.Samples() {
		if len(k.M.Cols) > 20 {
			continue
		}
		for turn := range 4 {
			m := grow(k.M, uint64(4*i+turn))
			want, list := swept(m)
			if same, _ := model.Equal(want, k.M); !same {
				c["others"]++
				continue
			}
			s := fresh(m)
			r, o, e := subst.Sweep(m, s)
			if same, _ := model.Equal(r, want); e != api.OK || o.Kind != api.Went || !same {
				t.Fatalf("P22.1: of %v: %v, %d, %d, want %v", m, r, o.Kind, e, want)
			}
			if fault := trial.Fault(m, r, s, k.K); fault != "" {
				t.Fatalf("P22.2: of %v: %s", m, fault)
			}
			c["steps"] += len(list)
			c.tally(k.K)
		}
	}
	c.check(t, 100)
	if c["others"] > c["steps"]/4 {
		t.Errorf("%d models left another one", c["others"])
	}
}
