package tighten_test

import (
	"math/big"
	"slices"
	"strconv"
	"testing"

	"tableau/api"
	"tableau/model"
	"tableau/sample"
	"tableau/tighten"
	"tableau/trial"
)

// power: 2 to the n, and d more.
func power(n uint, d int64) *big.Rat {
	return new(big.Rat).SetInt(new(big.Int).Add(new(big.Int).Lsh(big.NewInt(1), n), big.NewInt(d)))
}

func minus(a *big.Rat) *big.Rat { return new(big.Rat).Neg(a) }

// TestLimbs: v of just 16 limbs in Num, in Den and in both is taken, of 17 it is not, by Lo and by Hi, with a of either sign; what is long on the way and short in lowest terms is taken, too.
func TestLimbs(t *testing.T) {
	for i, c := range []struct {
		number, a *big.Rat
		taken     bool
	}{
		{power(1024, -1), power(0, 0), true},
		{power(1024, 0), power(0, 0), false},
		{power(1023, 0), power(0, 0), true},
		{power(0, 0), power(1024, -1), true},
		{power(0, 0), power(1024, 0), false},
		{power(1024, -1), power(1024, -3), true},
		{power(1024, -1), power(1024, 0), false},
		{power(1024, 0), power(1024, -1), false},
		{power(1024, 0), power(1024, 1), false},
		{power(1025, -2), power(1, 0), true},
		{power(1025, 0), power(1, 0), false},
		{power(5000, 0), power(4000, 0), true},
		{power(5000, 0), power(3976, 0), false},
		{power(3976, 0), power(5000, 0), false},
		{power(3977, 0), power(5000, 0), true},
		{power(9000, 0), power(9000, 0), true},
		{ratio(power(1024, -1), power(700, 0)), ratio(power(0, 0), power(700, 0)), true},
		{ratio(power(1024, 0), power(700, 1)), ratio(power(0, 0), power(700, 1)), false},
	} {
		for turn := range 16 {
			number, a := c.number, c.a
			if turn&1 > 0 {
				number = minus(number)
			}
			if turn&2 > 0 {
				a = minus(a)
			}
			checkLimbs(t, i, number, a, turn&4 > 0, turn&8 > 0, c.taken)
		}
	}
}

// checkLimbs: the bound that the number over a is, is taken or not; beside another column, or alone. Where it is not, the bound that there was stays, and is reckoned with.
func checkLimbs(t *testing.T, i int, number, a *big.Rat, byLo, beside, taken bool) {
	t.Helper()
	far := power(20000, 0)
	m := api.Model{Offset: sample.Frac(0, 1)}
	m.Cols = append(m.Cols, api.Col{Name: "x", Cost: sample.Frac(1, 1), Lo: api.Ext{V: fromBig(minus(far))}, Hi: api.Ext{V: fromBig(far)}})
	r := api.Row{Name: "r", Lo: sample.Low(), Hi: sample.High(), Terms: []api.Term{{Col: 0, A: fromBig(a)}}}
	if beside {
		// y is so much or so much less: it takes away what the row's bound is more.
		most := power(2000, 7)
		m.Cols = append(m.Cols, api.Col{Name: "y", Cost: sample.Frac(1, 1), Lo: api.Ext{V: fromBig(most)}, Hi: api.Ext{V: fromBig(most)}})
		r.Terms = append(r.Terms, sample.Term(1, 1))
		number = sum(number, most)
	}
	if byLo {
		r.Lo = api.Ext{V: fromBig(number)}
	} else {
		r.Hi = api.Ext{V: fromBig(number)}
	}
	m.Rows = []api.Row{r}
	s := fresh(m)
	got, _, e := tighten.Sweep(m, s)
	lower := byLo == (a.Sign() > 0)
	moved := [2]bool{!sameRat(got.Cols[0].Lo.V, m.Cols[0].Lo.V), !sameRat(got.Cols[0].Hi.V, m.Cols[0].Hi.V)}
	if e != api.OK || s.Tightened() != taken || moved != [2]bool{taken && lower, taken && !lower} {
		t.Fatalf("P24.1: case %d: by Lo %v, beside %v, a %d: Tightened %v, %v", i, byLo, beside, a.Sign(), s.Tightened(), moved)
	}
	count{}.checkBoth(t, m)
}

// TestTooLong: a bound that is not taken is not reckoned with, and does not keep another one from being taken.
func TestTooLong(t *testing.T) {
	c := count{}
	tooLong := fromBig(power(1024, 0))
	m := read(t, "min 0 / col x 1 -inf inf / col y 1 -inf inf / col z -1 0 5 / row a 0 8 1 x / row b -inf 0 1 x -1 y / row c 2 inf 1 z")
	m.Rows[0].Hi = api.Ext{V: tooLong}
	c.checkBoth(t, m)
	r, _, _ := tighten.Sweep(m, fresh(m))
	want := read(t, "min 0 / col x 1 0 inf / col y 1 0 inf / col z -1 2 5")
	if !slices.EqualFunc(r.Cols, want.Cols, sameCol) {
		t.Errorf("P24.1: %v", r)
	}
	c.check(t, 1, "v that is too long")
	// Bounds that are longer from the beginning are kept, and become stricter.
	m.Cols[0].Lo, m.Cols[0].Hi = api.Ext{V: fromBig(minus(power(3000, 1)))}, api.Ext{V: fromBig(power(3000, 1))}
	m.Rows[0].Hi = api.Ext{V: fromBig(power(1024, -1))}
	c.checkBoth(t, m)
	r, _, _ = tighten.Sweep(m, fresh(m))
	if !sameRat(r.Cols[0].Hi.V, fromBig(power(1024, -1))) || len(r.Cols[0].Lo.V.Num) > 0 {
		t.Errorf("P24.1: %v", r)
	}
}

func sameCol(a, b api.Col) bool {
	return a.Name == b.Name && sameRat(a.Cost, b.Cost) && a.Lo.Inf == b.Lo.Inf && a.Hi.Inf == b.Hi.Inf && sameRat(a.Lo.V, b.Lo.V) && sameRat(a.Hi.V, b.Hi.V)
}

// TestAgain: bounds that imply one another grow with each sweep, till they are too long; the way back goes through all of them.
func TestAgain(t *testing.T) {
	for _, by := range []string{"-1/2", "-12345678901234567891/98765432109876543211"} {
		m := read(t, "min 0 / col x -1 0 8 / col y -1 0 8 / row a -inf 0 1 x "+by+" y / row b -inf 0 "+by+" x 1 y")
		r, s := m, fresh(m)
		still := 0
		for range 64 {
			want, list := swept(r, count{})
			var e api.Errno
			r, _, e = tighten.Sweep(r, s)
			if same, _ := model.Equal(r, want); e != api.OK || !same {
				t.Fatalf("P24.1: %v, %d, want %v", r, e, want)
			}
			if len(list) == 0 {
				still++
			}
		}
		if (still > 40) != (len(by) > 10) || len(r.Cols[0].Hi.V.Den) > api.MaxTight {
			t.Errorf("P24.1: by %s: %d sweeps changed nothing: %v", by, still, r)
		}
		if fault := trial.Fault(m, r, s, trial.Of(r)); fault != "" {
			t.Errorf("P24.2: by %s: %s", by, fault)
		}
	}
}

// full: as many columns and rows as may be, with so many terms in each row.
func full(terms int) api.Model {
	m := api.Model{Offset: sample.Frac(0, 1)}
	for i := range api.MaxCols {
		m.Cols = append(m.Cols, sample.Col("x"+strconv.Itoa(i), i%5-2, sample.At(-1000-i), sample.At(1000+i)))
	}
	for i := range api.MaxRows {
		r := api.Row{Name: "r" + strconv.Itoa(i), Lo: sample.Low(), Hi: sample.At(1 + i%7)}
		if i%3 == 0 {
			r.Lo = sample.At(-1 - i%5)
		}
		for col := range terms {
			r.Terms = append(r.Terms, api.Term{Col: (col + i) % api.MaxCols, A: sample.Frac((1+(i*col+3*i)%4)*(1-2*((i+col)%2)), 1+col%3)})
		}
		slices.SortFunc(r.Terms, func(a, b api.Term) int { return a.Col - b.Col })
		m.Rows = append(m.Rows, r)
	}
	return m
}

// TestFull: rows of few columns and of all of them; the way back from an optimal basis.
func TestFull(t *testing.T) {
	c := count{}
	for _, terms := range []int{2, 5, 64} {
		s, steps := c.checkSweep(t, full(terms))
		c["steps"] += steps
		if terms == 2 {
			m := full(terms)
			k, _, fault := trial.Way(m, tighten.Sweep, tighten.Sweep)
			if fault != "" {
				t.Errorf("P24.2: rows of %d terms: %s", terms, fault)
			}
			c.tally(s, k)
		}
	}
	c.check(t, 50, "steps")
}
