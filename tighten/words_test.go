package tighten_test

import (
	"math/big"
	"slices"

	"tableau/api"
)

// The chapter's words, with the library's numbers.

func sum(a, b *big.Rat) *big.Rat     { return new(big.Rat).Add(a, b) }
func less(a, b *big.Rat) *big.Rat    { return new(big.Rat).Sub(a, b) }
func product(a, b *big.Rat) *big.Rat { return new(big.Rat).Mul(a, b) }
func ratio(a, b *big.Rat) *big.Rat   { return new(big.Rat).Quo(a, b) }

// greatest: the bound of k with which b x[k] is the greatest that it can be.
func greatest(b *big.Rat, k api.Col) api.Ext {
	if b.Sign() > 0 {
		return k.Hi
	}
	return k.Lo
}

// least: the one with which it is the least.
func least(b *big.Rat, k api.Col) api.Ext {
	if b.Sign() > 0 {
		return k.Lo
	}
	return k.Hi
}

// others: the sum over the row's other terms, each with the bound that is picked; and how many of these are infinite.
func others(cols []api.Col, r api.Row, j int, pick func(b *big.Rat, k api.Col) api.Ext) (*big.Rat, int) {
	g, infinite := new(big.Rat), 0
	for _, t := range r.Terms {
		b := toBig(t.A)
		switch bound := pick(b, cols[t.Col]); {
		case t.Col == j:
		case bound.Inf != 0:
			infinite++
		default:
			g = sum(g, product(b, toBig(bound.V)))
		}
	}
	return g, infinite
}

// long: has it more than 16 limbs in Num or in Den?
func long(v *big.Rat) bool { return v.Num().BitLen() > 16*64 || v.Denom().BitLen() > 16*64 }

// A tightening is a bound that became stricter, and the row that implied it.
type tightening struct {
	row   int
	col   int
	lower bool
}

// A sweeper is the sweep of the chapter, which notes what it came across.
type sweeper struct {
	cols []api.Col
	list []tightening
	met  count
}

// do takes one bound of the row, with the term a of column j.
func (s *sweeper) do(place int, r api.Row, t api.Term, byLo bool) {
	side, pick := r.Hi, least
	if byLo {
		side, pick = r.Lo, greatest
	}
	if side.Inf != 0 {
		s.met["a row's bound that is infinite"]++
		return
	}
	g, infinite := others(s.cols, r, t.Col, pick)
	s.meet(place, r, t, byLo, infinite)
	if infinite > 0 {
		return
	}
	a := toBig(t.A)
	v := ratio(less(toBig(side.V), g), a)
	s.take(v, tightening{row: place, col: t.Col, lower: byLo == (a.Sign() > 0)})
}

// take lets v become the bound, if it is stricter and not too long.
func (s *sweeper) take(v *big.Rat, t tightening) {
	c := &s.cols[t.col]
	bound, way := &c.Hi, -1
	if t.lower {
		bound, way = &c.Lo, 1
	}
	stricter := bound.Inf != 0 || v.Cmp(toBig(bound.V)) == way
	switch {
	case !stricter && v.Cmp(toBig(bound.V)) == 0:
		s.met["v that is alike"]++
	case !stricter:
		s.met["v that is looser"]++
	case long(v):
		s.met["v that is too long"]++
	default:
		if bound.Inf != 0 {
			s.met["an infinite bound of the term's own"]++
		}
		was := crossed(*c)
		*bound = api.Ext{V: fromBig(v)}
		if !was && crossed(*c) {
			s.met["bounds that become crossed"]++
		}
		s.met["v that is stricter"]++
		s.list = append(s.list, t)
	}
}

func crossed(c api.Col) bool {
	return c.Lo.Inf == 0 && c.Hi.Inf == 0 && toBig(c.Lo.V).Cmp(toBig(c.Hi.V)) > 0
}

// meet notes what kind of row and of bounds it is.
func (s *sweeper) meet(place int, r api.Row, t api.Term, byLo bool, infinite int) {
	s.met[[]string{"one term", "two terms", "three terms", "more terms"}[min(len(r.Terms), 4)-1]]++
	s.met[[]string{"no infinite bound", "one infinite bound", "several infinite bounds"}[min(infinite, 2)]]++
	if toBig(t.A).Sign() > 0 {
		s.met["a above 0"]++
	} else {
		s.met["a below 0"]++
	}
	for _, o := range r.Terms {
		above := toBig(o.A).Sign() > 0
		if o.Col == t.Col {
			continue
		}
		if above {
			s.met["b above 0"]++
		} else {
			s.met["b below 0"]++
		}
		if crossed(s.cols[o.Col]) {
			s.met["crossed bounds of another column"]++
		}
		if infinite == 0 {
			s.meetUsed(place, tightening{col: o.Col, lower: byLo != above})
		}
	}
}

// meetUsed notes what the bound that is reckoned with came from. (In one row what one side tightened is reckoned with by the other side alone.)
func (s *sweeper) meetUsed(place int, used tightening) {
	for _, was := range slices.Backward(s.list) {
		if was.col != used.col || was.lower != used.lower {
			continue
		}
		if was.row == place {
			s.met["a bound tightened by the row's other side"]++
		} else {
			s.met["a bound tightened by a row ahead"]++
		}
		return
	}
}

// kinds: what a sweeper notes of rows of few terms.
func kinds() []string {
	return []string{
		"one term", "two terms", "three terms", "no infinite bound", "one infinite bound",
		"a above 0", "a below 0", "b above 0", "b below 0", "a row's bound that is infinite", "an infinite bound of the term's own",
		"v that is stricter", "v that is alike", "v that is looser", "bounds that become crossed", "crossed bounds of another column",
		"a bound tightened by a row ahead", "a bound tightened by the row's other side",
	}
}

// swept: the model that a sweep leaves, and the bounds that became stricter, in their order. What it came across is noted in met.
func swept(m api.Model, met count) (api.Model, []tightening) {
	s := sweeper{cols: slices.Clone(m.Cols), met: met}
	for place, r := range m.Rows {
		for _, t := range r.Terms {
			s.do(place, r, t, true)
			s.do(place, r, t, false)
		}
	}
	m.Cols = s.cols
	return m, s.list
}
