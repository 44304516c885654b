package tighten_test

import (
	"math/big"
	"math/rand/v2"
	"slices"
	"strconv"
	"testing"

	"tableau/api"
	"tableau/dual"
	"tableau/farkas"
	"tableau/model"
	"tableau/point"
	"tableau/ray"
	"tableau/stack"
	"tableau/tighten"
	"tableau/trial"
)

// factors: numbers above 0, long ones too.
func factors() []*big.Rat {
	long, _ := new(big.Rat).SetString("36893488147419103233/340282366920938463463374607431768211507")
	huge, _ := new(big.Rat).SetString("115792089237316195423570985008687907853269984665640564039457584007913129639937/5")
	return []*big.Rat{big.NewRat(1, 1), big.NewRat(1, 1), big.NewRat(3, 2), big.NewRat(2, 7), long, huge}
}

// A place is one bound of a column.
type place struct {
	col   int
	lower bool
}

// A grower puts rows into a model, each of which implies a bound of a column, and loosens that bound: a sweep makes it what it was.
type grower struct {
	*rand.Rand
	m     api.Model
	k     trial.Known
	usual []place // bounds with which a row may be reckoned: numbers, at which the points that are known are
	ahead int     // rows that are put in stand ahead of this place: ahead of those that are reckoned with their bounds
}

func (g *grower) bound(p place) *api.Ext {
	if p.lower {
		return &g.m.Cols[p.col].Lo
	}
	return &g.m.Cols[p.col].Hi
}

// coefficient: above 0, or below.
func (g *grower) coefficient(above bool) *big.Rat {
	f := factors()[g.IntN(len(factors()))]
	if above {
		return f
	}
	return minus(f)
}

// put: a row that implies one of the usual bounds by others of them.
func (g *grower) put(name string) {
	which := g.IntN(len(g.usual))
	own := g.usual[which]
	byLo := g.IntN(2) == 0
	a := make([]*big.Rat, len(g.m.Cols))
	number := new(big.Rat)
	use := func(p place, above bool) {
		a[p.col] = g.coefficient(above)
		number = sum(number, product(a[p.col], toBig(g.bound(p).V)))
	}
	use(own, byLo == own.lower)
	for _, p := range g.usual {
		if a[p.col] == nil && g.IntN(2) == 0 {
			// Lo is reckoned with the greatest that the term can be.
			use(p, byLo != p.lower)
		}
	}
	g.ahead = g.IntN(g.ahead + 1)
	g.m.Rows = slices.Insert(g.m.Rows, g.ahead, g.row(name, byLo, number, a))
	g.known(g.ahead)
	g.loosen(own)
	g.usual = slices.Delete(g.usual, which, which+1)
}

// row: of these coefficients, with the number as Lo or as Hi; the other bound is infinite, looser, or the same.
func (g *grower) row(name string, byLo bool, number *big.Rat, a []*big.Rat) api.Row {
	r := api.Row{Name: name, Lo: api.Ext{Inf: -1, V: fromBig(new(big.Rat))}, Hi: api.Ext{Inf: 1, V: fromBig(new(big.Rat))}}
	bound, other, way := &r.Hi, &r.Lo, int64(-1)
	if byLo {
		bound, other, way = &r.Lo, &r.Hi, 1
	}
	*bound = api.Ext{V: fromBig(number)}
	switch g.IntN(3) {
	case 0:
		*other = api.Ext{V: fromBig(sum(number, big.NewRat(way*int64(g.IntN(5)), 3)))}
	case 1:
		*other = api.Ext{V: fromBig(number)}
	}
	for col := range a {
		if a[col] != nil {
			r.Terms = append(r.Terms, api.Term{Col: col, A: fromBig(a[col])})
		}
	}
	return r
}

// known: what is known gets multipliers of 0 for the row at that place.
func (g *grower) known(at int) {
	with := func(list []api.Rat) []api.Rat { return slices.Insert(slices.Clone(list), at, fromBig(new(big.Rat))) }
	for i := range g.k.Kkts {
		g.k.Kkts[i].Y = with(g.k.Kkts[i].Y)
	}
	for i := range g.k.Certs {
		g.k.Certs[i].RowLo, g.k.Certs[i].RowHi = with(g.k.Certs[i].RowLo), with(g.k.Certs[i].RowHi)
	}
}

func (g *grower) loosen(p place) {
	bound, way := g.bound(p), int64(1)
	if p.lower {
		way = -1
	}
	if g.IntN(2) == 0 {
		*bound = api.Ext{Inf: int(way), V: fromBig(new(big.Rat))}
		return
	}
	*bound = api.Ext{V: fromBig(sum(toBig(bound.V), big.NewRat(way*int64(1+g.IntN(9)), 2)))}
}

// usual: all bounds that are numbers, and that the numbers x, if there are any, are at.
func usual(m api.Model, x []api.Rat) []place {
	var out []place
	for col, c := range m.Cols {
		for _, lower := range []bool{true, false} {
			bound := c.Hi
			if lower {
				bound = c.Lo
			}
			if bound.Inf == 0 && (x == nil || sameRat(x[col], bound.V)) {
				out = append(out, place{col, lower})
			}
		}
	}
	return out
}

// grow: of a model and what is known of it another one, of which a sweep leaves a model of which the same is known.
func grow(s trial.Sampled, seed uint64) (api.Model, trial.Known) {
	g := grower{Rand: rand.New(rand.NewPCG(seed, 26)), ahead: len(s.M.Rows)}
	g.m, _ = model.Copy(s.M)
	g.k = trial.Known{Points: s.K.Points, Dirs: s.K.Dirs, Kkts: slices.Clone(s.K.Kkts), Certs: slices.Clone(s.K.Certs)}
	var x []api.Rat
	switch {
	case len(s.K.Kkts) > 0:
		x = s.K.Kkts[0].X
	case len(s.K.Points) > 0:
		x = s.K.Points[0]
	}
	g.usual = usual(g.m, x)
	for i := range 1 + g.IntN(4) {
		if len(g.usual) > 0 {
			g.put("g" + strconv.Itoa(i))
		}
	}
	return g.m, g.k
}

// still: what of all that is known the checkers say of r, too; and how much is gone.
func still(r api.Model, k trial.Known) (trial.Known, int) {
	var out trial.Known
	for _, x := range k.Points {
		if is, _ := point.Feasible(r, x); is {
			out.Points = append(out.Points, x)
		}
	}
	for _, d := range k.Dirs {
		if is, _ := ray.Recedes(r, d); is {
			out.Dirs = append(out.Dirs, d)
		}
	}
	for _, p := range k.Kkts {
		if is, _ := dual.Holds(r, p); is {
			out.Kkts = append(out.Kkts, p)
		}
	}
	for _, c := range k.Certs {
		if is, _ := farkas.Valid(r, c); is {
			out.Certs = append(out.Certs, c)
		}
	}
	return out, len(k.Points) + len(k.Kkts) + len(k.Certs) - len(out.Points) - len(out.Kkts) - len(out.Certs)
}

// TestGrown: what is known of a model, not from simplex, is taken back to models whose rows imply its bounds, with long numbers.
func TestGrown(t *testing.T) {
	c := count{}
	for i, known := range trial.Samples() {
		if len(known.M.Cols) > 20 {
			continue
		}
		for turn := range 6 {
			m, k := grow(known, uint64(6*i+turn))
			s, steps := c.checkSweep(t, m)
			r, _, _ := tighten.Sweep(m, fresh(m))
			k, gone := still(r, k)
			if fault := trial.Fault(m, r, s, k); fault != "" {
				t.Fatalf("P24.2: of %v: %s", m, fault)
			}
			c["gone"] += gone
			c["steps"] += steps
			c.tally(s, k)
		}
	}
	c.check(t, 100, "points", "directions", "KKT points", "certificates", "KKT points that lean", "certificates that lean", "steps")
	if c["gone"] > c["KKT points"]/20 {
		t.Errorf("of %d things known the sweep left nothing", c["gone"])
	}
}

// TestKnown: of a row x + 2y <= 6 and 0 <= x, 0 <= y that implies y <= 3 all that there is to know behind the step has just one way back.
func TestKnown(t *testing.T) {
	m := read(t, "min 3 / col x 0 0 4 / col y -1 0 4 / row r -inf 6 1 x 2 y")
	s := fresh(m)
	r, _, _ := tighten.Sweep(m, s)
	numbers := func(list ...int64) []api.Rat {
		var out []api.Rat
		for _, n := range list {
			out = append(out, fromBig(big.NewRat(n, 2)))
		}
		return out
	}
	p := api.Point{X: numbers(0, 6), Y: numbers(0), Z: numbers(0, -2)}
	if is, _ := dual.Holds(r, p); !is {
		t.Fatalf("P24.1: %v is no KKT point of %v", p, r)
	}
	want := api.Point{X: numbers(0, 6), Y: numbers(-1), Z: numbers(1, 0)}
	for range 3 {
		if q, e := s.Dual(p); e != api.OK || !samePoint(q, want) {
			t.Errorf("P24.2: Dual = %v, %d", q, e)
		}
	}
	// A row that asks for y at least 7/2.
	m = read(t, "min 3 / col x 0 0 4 / col y -1 0 4 / row r -inf 6 1 x 2 y / row q 7/2 inf 1 y")
	s = stackOf(t, m)
	c := api.Cert{RowLo: numbers(0, 2), RowHi: numbers(0, 0), ColLo: numbers(0, 0), ColHi: numbers(0, 2)}
	back := api.Cert{RowLo: numbers(0, 2), RowHi: numbers(1, 0), ColLo: numbers(1, 0), ColHi: numbers(0, 0)}
	for range 3 {
		if got, e := s.Cert(c); e != api.OK || !sameCert(got, back) {
			t.Errorf("P24.2: Cert = %v, %d", got, e)
		}
	}
}

// stackOf: the stack behind a sweep that tightens something.
func stackOf(t *testing.T, m api.Model) *stack.Stack {
	t.Helper()
	s := fresh(m)
	if _, _, e := tighten.Sweep(m, s); e != api.OK || !s.Tightened() {
		t.Fatalf("P24.1: of %v: %d", m, e)
	}
	return s
}

func samePoint(p, q api.Point) bool {
	return slices.EqualFunc(p.X, q.X, sameRat) && slices.EqualFunc(p.Y, q.Y, sameRat) && slices.EqualFunc(p.Z, q.Z, sameRat)
}

func sameCert(c, d api.Cert) bool {
	return slices.EqualFunc(c.RowLo, d.RowLo, sameRat) && slices.EqualFunc(c.RowHi, d.RowHi, sameRat) && slices.EqualFunc(c.ColLo, d.ColLo, sameRat) && slices.EqualFunc(c.ColHi, d.ColHi, sameRat)
}
