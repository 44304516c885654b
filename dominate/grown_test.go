package dominate_test

import (
	"math/big"
	"math/rand/v2"
	"slices"
	"strconv"
	"testing"

	"tableau/api"
	"tableau/dominate"
	"tableau/model"
	"tableau/sample"
	"tableau/stack"
	"tableau/trial"
)

// held: the same model, with a row in which all its columns stand and which has two bounds: so none of its columns goes. They are so wide that what is known of it is known still; one free column beside them takes up what directions do in that row.
func held(k trial.Sampled) trial.Sampled {
	var out trial.Sampled
	out.M, _ = model.Copy(k.M)
	n := len(k.M.Cols)
	out.M.Cols = append(out.M.Cols, sample.Col("free", 0, sample.Low(), sample.High()))
	far := fromBig(new(big.Rat).SetInt(new(big.Int).Lsh(big.NewInt(1), 900)))
	near := far
	near.Neg = true
	wide := api.Row{Name: "wide", Lo: api.Ext{V: near}, Hi: api.Ext{V: far}}
	for col := range n + 1 {
		wide.Terms = append(wide.Terms, sample.Term(col, 1))
	}
	out.M.Rows = append(out.M.Rows, wide)
	behind := func(x []api.Rat, v *big.Rat) []api.Rat { return append(slices.Clone(x), fromBig(v)) }
	zero := new(big.Rat)
	for _, x := range k.K.Points {
		out.K.Points = append(out.K.Points, behind(x, zero))
	}
	for _, d := range k.K.Dirs {
		sum := new(big.Rat)
		for _, r := range d {
			sum.Sub(sum, toBig(r))
		}
		out.K.Dirs = append(out.K.Dirs, behind(d, sum))
	}
	heldPoint := func(p api.Point) api.Point {
		return api.Point{X: behind(p.X, zero), Y: behind(p.Y, zero), Z: behind(p.Z, zero)}
	}
	for _, p := range k.K.Kkts {
		out.K.Kkts = append(out.K.Kkts, heldPoint(p))
	}
	for _, c := range k.K.Bases {
		b := api.Basis{Cols: append(slices.Clone(c.Basis.Cols), api.Free), Rows: append(slices.Clone(c.Basis.Rows), api.Basic)}
		out.K.Bases = append(out.K.Bases, stack.Corner{Basis: b, Point: heldPoint(c.Point)})
	}
	for _, c := range k.K.Certs {
		out.K.Certs = append(out.K.Certs, api.Cert{RowLo: behind(c.RowLo, zero), RowHi: behind(c.RowHi, zero), ColLo: behind(c.ColLo, zero), ColHi: behind(c.ColHi, zero)})
	}
	return out
}

// numbers: of either sign, 0, and long ones.
func numbers() []*big.Rat {
	out := []*big.Rat{big.NewRat(2, 1), big.NewRat(-5, 3)}
	for _, r := range sample.Rats() {
		out = append(out, toBig(r))
	}
	return out
}

// A grower puts columns into a model that a sweep takes out again.
type grower struct {
	*rand.Rand
	m api.Model
}

func (g *grower) number() *big.Rat { return numbers()[g.IntN(len(numbers()))] }

// size: not below 0.
func (g *grower) size() *big.Rat { return new(big.Rat).Abs(g.number()) }

// put: a column that goes to Lo, if way is -1, or to Hi, if it is 1, or, if it is 0, stands in no row and goes with 0.
func (g *grower) put(name string, way int) {
	v, cost, place := g.number(), g.size(), g.IntN(len(g.m.Cols)+1)
	col := api.Col{Name: name, Lo: api.Ext{V: fromBig(v)}, Hi: sample.High()}
	if g.IntN(2) == 0 {
		col.Hi = api.Ext{V: fromBig(new(big.Rat).Add(v, g.size()))}
	}
	switch way {
	case 0:
		cost, v, col.Lo, col.Hi = new(big.Rat), new(big.Rat), sample.Low(), sample.High()
	case 1:
		cost.Neg(cost)
		col.Hi, col.Lo = col.Lo, sample.Low()
		if cost.Sign() < 0 && g.IntN(2) == 0 {
			col.Lo = api.Ext{V: fromBig(new(big.Rat).Sub(v, g.size()))}
		}
	}
	offset := new(big.Rat).Mul(v, cost)
	g.m.Offset = fromBig(offset.Sub(toBig(g.m.Offset), offset))
	col.Cost = fromBig(cost)
	g.m.Cols = slices.Insert(g.m.Cols, place, col)
	for i := range g.m.Rows {
		putTerm(&g.m.Rows[i], place, g.coefficient(g.m.Rows[i], way), v)
	}
}

// coefficient: one by which the row lets the column go that way; 0, if there is none, and now and then.
func (g *grower) coefficient(r api.Row, way int) *big.Rat {
	a := g.size()
	switch {
	case way == 0 || g.IntN(3) == 0:
		return new(big.Rat)
	case r.Lo.Inf != 0 && r.Hi.Inf != 0:
		return g.number()
	case way > 0 && r.Hi.Inf != 0 || way < 0 && r.Lo.Inf != 0:
		return a
	case way > 0 && r.Lo.Inf != 0 || way < 0 && r.Hi.Inf != 0:
		return a.Neg(a)
	}
	return new(big.Rat)
}

// putTerm: column place, whose variable is v, comes into the row with the coefficient a.
func putTerm(r *api.Row, place int, a, v *big.Rat) {
	at := 0
	for i := range r.Terms {
		if r.Terms[i].Col >= place {
			r.Terms[i].Col++
		} else {
			at = i + 1
		}
	}
	if a.Sign() != 0 {
		r.Terms = slices.Insert(r.Terms, at, api.Term{Col: place, A: fromBig(a)})
		r.Lo, r.Hi = moved(r.Lo, new(big.Rat).Mul(a, v)), moved(r.Hi, new(big.Rat).Mul(a, v))
	}
}

// grow: a model of which a sweep leaves m.
func grow(m api.Model, seed uint64) api.Model {
	g := grower{Rand: rand.New(rand.NewPCG(seed, 20))}
	g.m, _ = model.Copy(m)
	for i := range 1 + g.IntN(7) {
		g.put("g"+strconv.Itoa(i), g.IntN(5)/2-1)
	}
	return g.m
}

// TestGrown: what is known of a model, not from simplex, is taken back to models of which that one is left.
func TestGrown(t *testing.T) {
	c := count{}
	for i, k := range trial.Samples() {
		if len(k.M.Cols) > 20 {
			continue
		}
		k = held(k)
		for turn := range 4 {
			m := grow(k.M, uint64(4*i+turn))
			s := fresh(m)
			r, o, e := dominate.Sweep(m, s)
			if same, _ := model.Equal(r, k.M); e != api.OK || o.Kind != api.Went || !same {
				t.Fatalf("P20.1: of %v: %v, %d, %d, want %v", m, r, o.Kind, e, k.M)
			}
			if fault := trial.Fault(m, r, s, k.K); fault != "" {
				t.Fatalf("P20.2: of %v: %s", m, fault)
			}
			for at, n := range swept(m).cases {
				c["case "+strconv.Itoa(at)] += n
			}
			c.tally(k.K, o)
		}
	}
	c.check(t, 100, slices.Concat(went(), []string{"case 2", "case 3", "case 4", "case 5"})...)
}

// TestGrownPending: the same, with a column among them at which the sweep ends, and which stands in no row. Points and certificates of what is left are the known ones, with 0 for that column.
func TestGrownPending(t *testing.T) {
	c := count{}
	for i, k := range trial.Samples() {
		if len(k.M.Cols) > 20 {
			continue
		}
		k = held(k)
		way := 1 - 2*(i%2)
		place := i % (len(k.M.Cols) + 1)
		col := sample.Col("endless", -way, sample.At(0), sample.High())
		if way < 0 {
			col.Lo, col.Hi = sample.Low(), sample.At(0)
		}
		k.M.Cols = slices.Insert(k.M.Cols, place, col)
		for r := range k.M.Rows {
			putTerm(&k.M.Rows[r], place, new(big.Rat), nil)
		}
		m := grow(k.M, uint64(i)+1<<20)
		s := fresh(m)
		r, o, e := dominate.Sweep(m, s)
		at, f := model.Col(r, "endless")
		if want := swept(m); e != api.OK || f != api.OK || o.Kind != api.Pending || !slices.EqualFunc(o.D, want.d, sameRat) || !sameRat(o.D[at], sample.Frac(way, 1)) {
			t.Fatalf("P20.1: of %v: %v, %v, %d", m, r, o, e)
		}
		if len(r.Cols) > len(k.M.Cols) {
			continue // columns behind that one stay, and nothing is known of theirs
		}
		var left trial.Known
		with := func(x []api.Rat) []api.Rat { return slices.Insert(slices.Clone(x), at, sample.Frac(0, 1)) }
		for _, x := range k.K.Points {
			left.Points = append(left.Points, with(x))
		}
		for _, d := range k.K.Certs {
			left.Certs = append(left.Certs, api.Cert{RowLo: d.RowLo, RowHi: d.RowHi, ColLo: with(d.ColLo), ColHi: with(d.ColHi)})
		}
		if fault := trial.PendingFault(m, r, s, o.D, left); fault != "" {
			t.Fatalf("P20.2: of %v: %s", m, fault)
		}
		c.tally(left, o)
	}
	c.check(t, 10, pendings()...)
}
