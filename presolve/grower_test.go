package presolve_test

import (
	"encoding/binary"
	"math/big"
	"math/rand/v2"
	"slices"
	"strconv"

	"tableau/api"
)

// toInt: the number of these limbs, by the library's own reckoning.
func toInt(a []uint64) *big.Int {
	var bytes []byte
	for _, w := range slices.Backward(a) {
		bytes = binary.BigEndian.AppendUint64(bytes, w)
	}
	return new(big.Int).SetBytes(bytes)
}

// limbs: the magnitude's limbs in form.
func limbs(n *big.Int) []uint64 {
	var a []uint64
	n = new(big.Int).Abs(n)
	for n.Sign() != 0 {
		a = append(a, new(big.Int).And(n, new(big.Int).SetUint64(1<<64-1)).Uint64())
		n.Rsh(n, 64)
	}
	return a
}

func toBig(r api.Rat) *big.Rat {
	num := toInt(r.Num)
	if r.Neg {
		num.Neg(num)
	}
	return new(big.Rat).SetFrac(num, toInt(r.Den))
}

func fromBig(n *big.Rat) api.Rat {
	return api.Rat{Neg: n.Sign() < 0, Num: limbs(n.Num()), Den: limbs(n.Denom())}
}

// toBound: nil is infinite.
func toBound(e api.Ext) *big.Rat {
	if e.Inf != 0 {
		return nil
	}
	return toBig(e.V)
}

// fromBound: inf says which infinity a nil is.
func fromBound(v *big.Rat, inf int) api.Ext {
	if v == nil {
		return api.Ext{Inf: inf, V: fromBig(new(big.Rat))}
	}
	return api.Ext{V: fromBig(v)}
}

func sum(a, b *big.Rat) *big.Rat     { return new(big.Rat).Add(a, b) }
func less(a, b *big.Rat) *big.Rat    { return new(big.Rat).Sub(a, b) }
func product(a, b *big.Rat) *big.Rat { return new(big.Rat).Mul(a, b) }
func ratio(a, b *big.Rat) *big.Rat   { return new(big.Rat).Quo(a, b) }

// moved: the bound, so much higher.
func moved(v, by *big.Rat) *big.Rat {
	if v == nil {
		return nil
	}
	return sum(v, by)
}

// times: both bounds, so many times.
func times(lo, hi, l *big.Rat) (*big.Rat, *big.Rat) {
	if l.Sign() < 0 {
		lo, hi = hi, lo
	}
	scaled := func(v *big.Rat) *big.Rat {
		if v == nil {
			return nil
		}
		return product(v, l)
	}
	return scaled(lo), scaled(hi)
}

// A column of a grower has a number x, where a point of the model is known. A line is a row with all its coefficients.
type column struct {
	name         string
	cost, lo, hi *big.Rat
	x            *big.Rat
}

type line struct {
	name   string
	lo, hi *big.Rat
	a      []*big.Rat
}

// A grower puts into a model what passes take out again, by the chapters from their end to their beginning.
type grower struct {
	*rand.Rand
	offset *big.Rat
	cols   []column
	rows   []line
	count  int
}

// growing: x has numbers for the columns, or is empty.
func growing(m api.Model, x []api.Rat, seed uint64) *grower {
	g := &grower{Rand: rand.New(rand.NewPCG(seed, 29)), offset: toBig(m.Offset)}
	for j, c := range m.Cols {
		col := column{name: c.Name, cost: toBig(c.Cost), lo: toBound(c.Lo), hi: toBound(c.Hi)}
		if len(x) > 0 {
			col.x = toBig(x[j])
		}
		g.cols = append(g.cols, col)
	}
	for _, r := range m.Rows {
		l := line{name: r.Name, lo: toBound(r.Lo), hi: toBound(r.Hi), a: g.noughts()}
		for _, t := range r.Terms {
			l.a[t.Col] = toBig(t.A)
		}
		g.rows = append(g.rows, l)
	}
	return g
}

func (g *grower) model() api.Model {
	m := api.Model{Offset: fromBig(g.offset)}
	for _, c := range g.cols {
		m.Cols = append(m.Cols, api.Col{Name: c.name, Cost: fromBig(c.cost), Lo: fromBound(c.lo, -1), Hi: fromBound(c.hi, 1)})
	}
	for _, l := range g.rows {
		r := api.Row{Name: l.name, Lo: fromBound(l.lo, -1), Hi: fromBound(l.hi, 1)}
		for col, a := range l.a {
			if a.Sign() != 0 {
				r.Terms = append(r.Terms, api.Term{Col: col, A: fromBig(a)})
			}
		}
		m.Rows = append(m.Rows, r)
	}
	return m
}

// noughts: a coefficient for each column.
func (g *grower) noughts() []*big.Rat {
	out := make([]*big.Rat, len(g.cols))
	for j := range out {
		out[j] = new(big.Rat)
	}
	return out
}

// name: what is put in for a pass is named after it.
func (g *grower) name(pass string) string {
	g.count++
	return pass + "_" + strconv.Itoa(g.count)
}

// factor: of either sign, now and then long. number: it may be 0.
func (g *grower) factor() *big.Rat {
	long, _ := new(big.Rat).SetString("36893488147419103233/340282366920938463463374607431768211507")
	list := []*big.Rat{big.NewRat(1, 1), big.NewRat(1, 1), big.NewRat(3, 2), big.NewRat(2, 7), long}
	f := list[g.IntN(len(list))]
	if g.IntN(2) == 0 {
		return new(big.Rat).Neg(f)
	}
	return f
}

func (g *grower) number() *big.Rat {
	if g.IntN(3) == 0 {
		return new(big.Rat)
	}
	return g.factor()
}

// apart: a bound made of two, the stricter of which it is; away says in which direction they are looser.
func (g *grower) apart(bound *big.Rat, away int64) (own, other *big.Rat) {
	if bound == nil {
		return nil, nil
	}
	var looser *big.Rat
	if g.IntN(2) == 0 {
		looser = sum(bound, big.NewRat(away, 3))
	}
	switch g.IntN(3) {
	case 0:
		return bound, looser
	case 1:
		return looser, bound
	}
	return bound, bound
}

// put: what the pass of that code takes out; nothing, where there is no place for it.
func (g *grower) put(code int) {
	switch code {
	case api.PassSingle:
		g.putSingle()
	case api.PassFixed:
		v := g.number()
		g.putNumber(column{name: g.name("fixed"), cost: g.number(), lo: v, hi: v}, v, func(*big.Rat, line) bool { return true })
	case api.PassDominate:
		g.putDominated()
	case api.PassPairup:
		g.putPair()
	case api.PassSubst:
		g.putTold()
	case api.PassTwin:
		g.putTwin()
	case api.PassTighten:
		g.putTight()
	}
}

func (g *grower) putSingle() {
	if len(g.cols) == 0 {
		return
	}
	j := g.IntN(len(g.cols))
	c := &g.cols[j]
	l := line{name: g.name("single"), a: g.noughts()}
	l.a[j] = g.factor()
	c.lo, l.lo = g.apart(c.lo, -1)
	c.hi, l.hi = g.apart(c.hi, 1)
	l.lo, l.hi = times(l.lo, l.hi, l.a[j])
	g.rows = slices.Insert(g.rows, g.IntN(len(g.rows)+1), l)
}

// putNumber: a column that is the number v, with terms in the rows that let it have them.
func (g *grower) putNumber(c column, v *big.Rat, lets func(q *big.Rat, l line) bool) {
	j := g.IntN(len(g.cols) + 1)
	if g.known() {
		c.x = v
	}
	g.cols = slices.Insert(g.cols, j, c)
	g.offset = less(g.offset, product(c.cost, v))
	for i := range g.rows {
		l, q := &g.rows[i], g.number()
		if g.IntN(2) == 0 || !lets(q, *l) {
			q = new(big.Rat)
		}
		l.a = slices.Insert(l.a, j, q)
		l.lo, l.hi = moved(l.lo, product(q, v)), moved(l.hi, product(q, v))
	}
}

// known: are there numbers for the columns?
func (g *grower) known() bool { return len(g.cols) == 0 || g.cols[0].x != nil }

func (g *grower) putDominated() {
	v, cost := g.number(), g.factor()
	c := column{name: g.name("dominate"), cost: cost, lo: v}
	if g.IntN(2) == 0 {
		c.hi = sum(v, big.NewRat(int64(1+g.IntN(3)), 2))
	}
	falls := cost.Sign() > 0
	if !falls {
		c.lo, c.hi = nil, v
	}
	g.putNumber(c, v, func(q *big.Rat, l line) bool {
		if (q.Sign() > 0) == falls {
			return l.lo == nil
		}
		return l.hi == nil
	})
}

// tell puts in column j with the equation of these coefficients and this number, which tells it.
func (g *grower) tell(j int, c column, a []*big.Rat, r *big.Rat) {
	x := r
	for k, other := range g.cols {
		at := k
		if k >= j {
			at++
		}
		g.cols[k].cost = sum(other.cost, ratio(product(c.cost, a[at]), a[j]))
		if other.x != nil {
			x = less(x, product(a[at], other.x))
		}
	}
	if g.known() {
		c.x = ratio(x, a[j])
	}
	g.cols = slices.Insert(g.cols, j, c)
	g.offset = less(g.offset, ratio(product(c.cost, r), a[j]))
	for i := range g.rows {
		l := &g.rows[i]
		l.a = slices.Insert(l.a, j, new(big.Rat))
		if g.IntN(2) == 0 {
			continue
		}
		by := ratio(g.number(), a[j])
		for k := range l.a {
			l.a[k] = sum(l.a[k], product(by, a[k]))
		}
		l.lo, l.hi = moved(l.lo, product(by, r)), moved(l.hi, product(by, r))
	}
	g.rows = slices.Insert(g.rows, g.IntN(len(g.rows)+1), line{name: c.name, lo: r, hi: r, a: a})
}

func (g *grower) putTold() {
	j := g.IntN(len(g.cols) + 1)
	a := slices.Insert(g.noughts(), j, g.factor())
	for k := range a {
		if k != j && g.IntN(2) == 0 {
			a[k] = g.number()
		}
	}
	g.tell(j, column{name: g.name("subst"), cost: g.number()}, a, g.number())
}

// putPair: x[j] is (r - b x[k]) / a, and has some of the bounds that k has.
func (g *grower) putPair() {
	if len(g.cols) == 0 {
		return
	}
	k := g.IntN(len(g.cols))
	j := g.IntN(k + 1)
	c := column{name: g.name("pairup"), cost: g.number()}
	g.cols[k].lo, c.lo = g.apart(g.cols[k].lo, -1)
	g.cols[k].hi, c.hi = g.apart(g.cols[k].hi, 1)
	a := slices.Insert(g.noughts(), j, g.factor())
	a[k+1] = g.factor()
	r := g.number()
	c.lo, c.hi = times(c.lo, c.hi, ratio(new(big.Rat).Neg(a[k+1]), a[j]))
	c.lo, c.hi = moved(c.lo, ratio(r, a[j])), moved(c.hi, ratio(r, a[j]))
	g.tell(j, c, a, r)
}

func (g *grower) putTwin() {
	if len(g.rows) == 0 {
		return
	}
	i := g.IntN(len(g.rows))
	first := &g.rows[i]
	if !slices.ContainsFunc(first.a, func(a *big.Rat) bool { return a.Sign() != 0 }) {
		return
	}
	l := line{name: g.name("twin")}
	by := g.factor()
	first.lo, l.lo = g.apart(first.lo, -1)
	first.hi, l.hi = g.apart(first.hi, 1)
	l.lo, l.hi = times(l.lo, l.hi, by)
	for _, a := range first.a {
		l.a = append(l.a, product(a, by))
	}
	g.rows = slices.Insert(g.rows, i+1+g.IntN(len(g.rows)-i), l)
}

// bound: that of a column on one side, if it is a number, and the column's number, if that is known, is at it.
func (g *grower) bound(j int, lower bool) (*big.Rat, bool) {
	c := g.cols[j]
	v := c.hi
	if lower {
		v = c.lo
	}
	return v, v != nil && (c.x == nil || c.x.Cmp(v) == 0)
}

// putTight: a row that implies a bound of a column by bounds of others. That bound is loosened.
func (g *grower) putTight() {
	if len(g.cols) == 0 {
		return
	}
	own, lower, byLo := g.IntN(len(g.cols)), g.IntN(2) == 0, g.IntN(2) == 0
	v, is := g.bound(own, lower)
	if !is {
		return
	}
	a, number := g.noughts(), new(big.Rat)
	use := func(j int, v *big.Rat, above bool) {
		a[j] = new(big.Rat).Abs(g.factor())
		if !above {
			a[j].Neg(a[j])
		}
		number = sum(number, product(a[j], v))
	}
	use(own, v, byLo == lower)
	for j := range g.cols {
		side := g.IntN(2) == 0
		if w, is := g.bound(j, side); is && j != own && g.IntN(3) > 0 {
			use(j, w, byLo != side)
		}
	}
	l := line{name: g.name("tighten"), a: a}
	if byLo {
		l.lo = number
	} else {
		l.hi = number
	}
	g.rows = slices.Insert(g.rows, g.IntN(len(g.rows)+1), l)
	g.loosen(own, lower)
}

func (g *grower) loosen(j int, lower bool) {
	c := &g.cols[j]
	bound, way := &c.hi, int64(1)
	if lower {
		bound, way = &c.lo, -1
	}
	if g.IntN(2) == 0 {
		*bound = nil
		return
	}
	*bound = sum(*bound, big.NewRat(way*int64(1+g.IntN(5)), 2))
}
