package stack_test

import (
	"testing"

	"tableau/api"
	"tableau/sample"
	"tableau/stack"
)

// A pair is two bounds; a nil one is infinite.
type pair struct{ lo, hi *int }

func at(n int) *int { return &n }

// pairs: each kind of them: open ones, one number, crossed ones.
func pairs() []pair {
	var out []pair
	for _, lo := range []*int{nil, at(-2), at(0), at(4)} {
		for _, hi := range []*int{nil, at(-4), at(0), at(2)} {
			out = append(out, pair{lo, hi})
		}
	}
	return out
}

func (p pair) exts() (lo, hi api.Ext) {
	lo, hi = sample.Low(), sample.High()
	if p.lo != nil {
		lo = sample.At(*p.lo)
	}
	if p.hi != nil {
		hi = sample.At(*p.hi)
	}
	return lo, hi
}

// scaled: the bounds of what is so many times what these bound.
func (p pair) scaled(rate int) pair {
	times := func(b *int) *int {
		if b == nil {
			return nil
		}
		return at(*b * rate)
	}
	if rate < 0 {
		return pair{times(p.hi), times(p.lo)}
	}
	return pair{times(p.lo), times(p.hi)}
}

// A loan is bounds of one thing that another one took over: which ones it did, and what it has then.
type loan struct {
	own, from, got pair
	rate           int
	lo, hi         bool
}

func loans() []loan {
	var out []loan
	for _, own := range pairs() {
		for _, from := range pairs() {
			for _, rate := range []int{1, -1, 2, -3} {
				l := loan{own: own, from: from, got: own, rate: rate}
				by := from.scaled(rate)
				if by.lo != nil && (own.lo == nil || *by.lo > *own.lo) {
					l.lo, l.got.lo = true, by.lo
				}
				if by.hi != nil && (own.hi == nil || *by.hi < *own.hi) {
					l.hi, l.got.hi = true, by.hi
				}
				out = append(out, l)
			}
		}
	}
	return out
}

// lend: it tells, too, whether what was made of the bounds is what had to be.
func (l loan) lend() (stack.Lent, bool) {
	lo, hi := l.own.exts()
	from, to := l.from.exts()
	got := stack.Lend(&lo, &hi, sample.Frac(l.rate, 1), from, to)
	wantLo, wantHi := l.got.exts()
	return got, lo.Inf == wantLo.Inf && sameRat(lo.V, wantLo.V) && hi.Inf == wantHi.Inf && sameRat(hi.V, wantHi.V)
}

// TestLend: bounds become the stricter ones, whichever sign the rate has; the one that goes has to bear what leaned on those that were lent, and that alone.
func TestLend(t *testing.T) {
	for _, c := range loans() {
		l, is := c.lend()
		if !is {
			t.Errorf("P17.4: Lend of %v: other bounds than %v", c, c.got)
		}
		for z := -2; z <= 2; z++ {
			r := sample.Frac(z, 3)
			if want := z > 0 && c.lo || z < 0 && c.hi; l.Bears(r) != want {
				t.Errorf("P17.4: %v: Bears(%v) = %v", c, r, !want)
			}
			if share := l.Share(r); !sameRat(share, sample.Frac(z*c.rate, 3)) {
				t.Errorf("P17.4: %v: Share(%v) = %v", c, r, share)
			}
		}
	}
}

// TestRest: z's sign tells where the one that stays rests, even where it rests at its other bound, which then is the same number; only of 0 it is its status.
func TestRest(t *testing.T) {
	for _, c := range loans() {
		l, _ := c.lend()
		for _, status := range []api.Status{api.Basic, api.Lower, api.Upper, api.Free} {
			for z := -1; z <= 1; z++ {
				stays, went := status, api.Basic
				got := l.Rest(sample.Frac(z, 1), &stays, &went)
				side := []api.Status{api.Upper, status, api.Lower}[z+1]
				bears := side == api.Lower && c.lo || side == api.Upper && c.hi
				rests, comes := side, api.Basic
				if bears {
					rests, comes = api.Basic, side
				}
				if bears && c.rate < 0 {
					comes = api.Lower + api.Upper - side
				}
				if got != bears || stays != rests || went != comes {
					t.Errorf("P17.4: %v: Rest(%d, %d): %v, %d, %d", c, z, status, got, stays, went)
				}
			}
		}
	}
}

// TestMultipliers: those of bounds that were lent go over, each to the bound that lent it; the others stay.
func TestMultipliers(t *testing.T) {
	for _, c := range loans() {
		l, _ := c.lend()
		lo, hi := sample.Frac(5, 7), sample.Frac(3, 1)
		least, most := l.Multipliers(&lo, &hi)
		size := max(c.rate, -c.rate)
		wantLo, wantHi, wantLeast, wantMost := sample.Frac(5, 7), sample.Frac(3, 1), sample.Frac(0, 1), sample.Frac(0, 1)
		if c.lo {
			wantLo, wantLeast = wantLeast, sample.Frac(5*size, 7)
		}
		if c.hi {
			wantHi, wantMost = wantMost, sample.Frac(3*size, 1)
		}
		if c.rate < 0 {
			wantLeast, wantMost = wantMost, wantLeast
		}
		if !sameRats([]api.Rat{lo, hi, least, most}, []api.Rat{wantLo, wantHi, wantLeast, wantMost}) {
			t.Errorf("P17.4: %v: Multipliers: %v, %v leave %v, %v", c, least, most, lo, hi)
		}
	}
}

// TestLentKeeps: what was lent is new memory, and so is what is kept of it.
func TestLentKeeps(t *testing.T) {
	lo, hi := sample.Low(), sample.High()
	from, to, rate := sample.At(3), sample.At(5), sample.Frac(2, 1)
	l := stack.Lend(&lo, &hi, rate, from, to)
	for _, r := range []api.Rat{from.V, to.V, rate} {
		r.Num[0] += 10
		r.Den[0] += 10
	}
	if z := l.Share(sample.Frac(1, 1)); !sameRat(z, sample.Frac(2, 1)) || !sameRat(lo.V, sample.Frac(6, 1)) || !sameRat(hi.V, sample.Frac(10, 1)) {
		t.Errorf("P17.5: %v, %v, %v have changed with what was handed in", z, lo, hi)
	}
}
