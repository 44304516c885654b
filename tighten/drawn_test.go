package tighten_test

import (
	"math/rand/v2"
	"slices"
	"strconv"
	"testing"

	"tableau/api"
	"tableau/dominate"
	"tableau/fixed"
	"tableau/pairup"
	"tableau/sample"
	"tableau/single"
	"tableau/subst"
	"tableau/tighten"
	"tableau/trial"
	"tableau/twin"
)

// bounds: pairs of each kind; one number twice; crossed.
func bounds() [][2]api.Ext {
	var out [][2]api.Ext
	for _, lo := range []api.Ext{sample.Low(), sample.At(-2), sample.At(0), sample.At(1)} {
		for _, hi := range []api.Ext{sample.High(), sample.At(0), sample.At(1), sample.At(2)} {
			out = append(out, [2]api.Ext{lo, hi})
		}
	}
	return out
}

// rowBounds: of a row: Lo alone, Hi alone, both, neither, one number, crossed.
func rowBounds() [][2]api.Ext {
	return [][2]api.Ext{
		{sample.At(-1), sample.High()}, {sample.At(2), sample.High()}, {sample.Low(), sample.At(-1)}, {sample.Low(), sample.At(2)},
		{sample.At(-1), sample.At(1)}, {sample.AtFrac(-3, 2), sample.At(3)}, {sample.At(1), sample.At(1)}, {sample.At(2), sample.At(1)}, {sample.Low(), sample.High()},
	}
}

// A maker puts small models together from such bounds.
type maker struct{ *rand.Rand }

func made(seed int) maker { return maker{rand.New(rand.NewPCG(uint64(seed), 24))} }

// coefficient: of either sign, 1 as often as not.
func (g maker) coefficient() api.Rat {
	sign := 1 - 2*g.IntN(2)
	switch g.IntN(4) {
	case 0:
		return sample.Frac(2*sign, 1)
	case 1:
		return sample.Frac(sign, 3)
	}
	return sample.Frac(sign, 1)
}

func (g maker) row(name string, b [2]api.Ext, cols ...int) api.Row {
	r := api.Row{Name: name, Lo: b[0], Hi: b[1]}
	for _, col := range cols {
		r.Terms = append(r.Terms, api.Term{Col: col, A: g.coefficient()})
	}
	return r
}

// model: columns of these bounds, and no rows.
func (g maker) model(pairs ...[2]api.Ext) api.Model {
	m := api.Model{Offset: sample.Frac(1, 2)}
	for i, b := range pairs {
		m.Cols = append(m.Cols, sample.Col("x"+strconv.Itoa(i), g.IntN(5)-2, b[0], b[1]))
	}
	return m
}

// some: so many of n places, rising.
func (g maker) some(n, many int) []int {
	out := g.Perm(n)[:many]
	slices.Sort(out)
	return out
}

// TestTwoTerms: each pair of bounds of both columns, each kind of a row's, all signs.
func TestTwoTerms(t *testing.T) {
	c := count{}
	for i, first := range bounds() {
		for k, second := range bounds() {
			for n, b := range rowBounds() {
				for signs := range 4 {
					g := made(signs + 4*(n+16*(k+16*i)))
					m := g.model(first, second)
					r := g.row("r", b, 0, 1)
					r.Terms[0].A.Neg, r.Terms[1].A.Neg = signs&1 > 0, signs&2 > 0
					m.Rows = []api.Row{r}
					c.checkBoth(t, m)
				}
			}
		}
	}
	c.check(t, 500, things()...)
	c.check(t, 100, "two terms", "no infinite bound", "one infinite bound", "v that is stricter", "v that is alike", "v that is looser", "an infinite bound of the term's own", "bounds that become crossed",
		"crossed bounds of another column", "a bound tightened by the row's other side", "a row's bound that is infinite")
}

// TestOneTerm: alone, beside a row without terms.
func TestOneTerm(t *testing.T) {
	c := count{}
	for i, b := range bounds() {
		for n, of := range rowBounds() {
			for turn := range 8 {
				g := made(turn + 8*(n+16*i))
				m := g.model(b, bounds()[turn])
				m.Rows = []api.Row{g.row("r", of, turn%2), g.row("q", rowBounds()[(turn+n)%len(rowBounds())])}
				c.checkBoth(t, m)
			}
		}
	}
	c.check(t, 200, things()...)
	c.check(t, 50, "one term", "v that is stricter", "v that is alike", "v that is looser", "an infinite bound of the term's own", "bounds that become crossed")
}

// TestMoreTerms: one row of three columns up to five, of which some may stand in no row.
func TestMoreTerms(t *testing.T) {
	c := count{}
	pairs := bounds()
	for seed := range 1000 {
		g := made(seed)
		var list [][2]api.Ext
		for range 3 + g.IntN(3) {
			b := pairs[g.IntN(len(pairs))]
			// Mostly both numbers, as one infinite bound is enough for nothing to be implied.
			if g.IntN(3) > 0 {
				b = [2]api.Ext{sample.At(-g.IntN(3)), sample.At(g.IntN(3))}
			}
			list = append(list, b)
		}
		m := g.model(list...)
		m.Rows = []api.Row{g.row("r", rowBounds()[g.IntN(len(rowBounds()))], g.some(len(list), 3+g.IntN(len(list)-2))...)}
		c.checkBoth(t, m)
	}
	c.check(t, 200, things()...)
	c.check(t, 40, "three terms", "more terms", "no infinite bound", "one infinite bound", "several infinite bounds", "a bound tightened by the row's other side")
}

// bounded: a small model most of whose columns have numbers as bounds, and stand in several rows: so that rows imply many bounds, and those others.
func bounded(seed int) api.Model {
	g := made(seed + 1<<20)
	pairs := bounds()
	var list [][2]api.Ext
	n := 2 + g.IntN(2)
	for range n {
		b := pairs[g.IntN(len(pairs))]
		if g.IntN(3) > 0 {
			b = [2]api.Ext{sample.At(-g.IntN(4)), sample.At(g.IntN(4))}
		}
		list = append(list, b)
	}
	m := g.model(list...)
	for i := range 2 + g.IntN(2) {
		of := rowBounds()[g.IntN(len(rowBounds()))]
		m.Rows = append(m.Rows, g.row("r"+strconv.Itoa(i), of, g.some(n, min(n, 1+g.IntN(3)))...))
	}
	return m
}

// TestBounded: columns in several rows.
func TestBounded(t *testing.T) {
	c := count{}
	for seed := range 1500 {
		c.checkBoth(t, bounded(seed))
	}
	c.check(t, 500, things()...)
	c.check(t, 100, kinds()...)
}

// ways: scripts in which the pass stands beside all the others, and such as are it alone.
func ways() [][]trial.Sweep {
	return [][]trial.Sweep{
		{tighten.Sweep, tighten.Sweep, tighten.Sweep},
		{tighten.Sweep, fixed.Sweep, single.Sweep, tighten.Sweep, twin.Sweep},
		{single.Sweep, tighten.Sweep, dominate.Sweep, fixed.Sweep, tighten.Sweep},
		{pairup.Sweep, tighten.Sweep, subst.Sweep, twin.Sweep, tighten.Sweep, single.Sweep, dominate.Sweep},
		{twin.Sweep, subst.Sweep, tighten.Sweep, pairup.Sweep, fixed.Sweep},
	}
}

// checkWays: several sweeps on one stack.
func (c count) checkWays(t *testing.T, m api.Model) {
	t.Helper()
	for i, way := range ways() {
		k, o, fault := trial.Way(m, way...)
		if fault != "" {
			t.Fatalf("P24.2: of %v, by script %d: %s", m, i, fault)
		}
		c["points"] += len(k.Points)
		c["KKT points"] += len(k.Kkts)
		c["certificates"] += len(k.Certs)
		if o.Kind == api.Pending {
			c["directions"]++
		}
	}
}

// TestDrawn: models with much to take out, swept once, and several times with the other passes between.
func TestDrawn(t *testing.T) {
	c := count{}
	for seed := range 900 {
		m := sample.Prunable(seed)
		c.checkBoth(t, m)
		if seed%3 == 0 {
			c.checkWays(t, m)
			c.checkWays(t, bounded(seed))
		}
	}
	c.check(t, 100, things()...)
	for seed := range 300 {
		c.checkBoth(t, sample.Mixed(seed))
		c.checkBoth(t, sample.Drawn(seed))
	}
	for _, m := range sample.Models() {
		c.checkBoth(t, m)
	}
}
