package single_test

import (
	"math/big"
	"math/rand/v2"
	"slices"
	"strconv"
	"testing"

	"tableau/api"
	"tableau/model"
	"tableau/sample"
	"tableau/single"
	"tableau/stack"
	"tableau/trial"
)

// thick: the same model, with two columns of the number 0 in each row: so none of its rows goes. What is known of it is told of them, too.
func thick(k trial.Sampled) trial.Sampled {
	var out trial.Sampled
	out.M, _ = model.Copy(k.M)
	n := len(k.M.Cols)
	out.M.Cols = append(out.M.Cols, sample.Col("p", 0, sample.At(0), sample.At(0)), sample.Col("q", 0, sample.At(0), sample.At(0)))
	for i := range out.M.Rows {
		r := &out.M.Rows[i]
		r.Terms = append(r.Terms, sample.Term(n, 1), sample.Term(n+1, -1))
	}
	behind := func(x []api.Rat, v, w api.Rat) []api.Rat { return append(slices.Clone(x), v, w) }
	zero := sample.Frac(0, 1)
	for _, x := range k.K.Points {
		out.K.Points = append(out.K.Points, behind(x, zero, zero))
	}
	for _, d := range k.K.Dirs {
		out.K.Dirs = append(out.K.Dirs, behind(d, zero, zero))
	}
	thickPoint := func(p api.Point) api.Point {
		sum := total(p.Y)
		return api.Point{X: behind(p.X, zero, zero), Y: p.Y, Z: behind(p.Z, fromBig(new(big.Rat).Neg(sum)), fromBig(sum))}
	}
	for _, p := range k.K.Kkts {
		out.K.Kkts = append(out.K.Kkts, thickPoint(p))
	}
	for _, c := range k.K.Bases {
		b := api.Basis{Cols: append(slices.Clone(c.Basis.Cols), api.Lower, api.Upper), Rows: c.Basis.Rows}
		out.K.Bases = append(out.K.Bases, stack.Corner{Basis: b, Point: thickPoint(c.Point)})
	}
	for _, c := range k.K.Certs {
		lo, hi := fromBig(total(c.RowHi)), fromBig(total(c.RowLo))
		out.K.Certs = append(out.K.Certs, api.Cert{RowLo: c.RowLo, RowHi: c.RowHi, ColLo: behind(c.ColLo, lo, hi), ColHi: behind(c.ColHi, hi, lo)})
	}
	return out
}

func total(list []api.Rat) *big.Rat {
	sum := new(big.Rat)
	for _, r := range list {
		sum.Add(sum, toBig(r))
	}
	return sum
}

// factors: coefficients of either sign, long ones too.
func factors() []*big.Rat {
	long, _ := new(big.Rat).SetString("-36893488147419103233/340282366920938463463374607431768211507")
	huge, _ := new(big.Rat).SetString("115792089237316195423570985008687907853269984665640564039457584007913129639937/5")
	return []*big.Rat{big.NewRat(1, 1), big.NewRat(-1, 1), big.NewRat(3, 2), big.NewRat(-2, 7), long, huge}
}

// grow: a model of which a sweep leaves m: rows of one term and of none are put between its rows, and some of its columns' bounds are the rows' alone, or the column's own are no looser.
func grow(m api.Model, seed uint64) api.Model {
	out, _ := model.Copy(m)
	d := rand.New(rand.NewPCG(seed, 18))
	pick := func(n int) int { return d.IntN(n) }
	for i := range min(pick(12), api.MaxRows-len(m.Rows)) {
		r := api.Row{Name: "g" + strconv.Itoa(i), Lo: sample.At(-pick(2)), Hi: sample.High()}
		if pick(5) > 0 {
			col := pick(len(m.Cols))
			a := factors()[pick(len(factors()))]
			r.Lo, r.Hi = rowBounds(m.Cols[col], &out.Cols[col], a, pick)
			r.Terms = []api.Term{{Col: col, A: fromBig(a)}}
		}
		out.Rows = slices.Insert(out.Rows, pick(len(out.Rows)+1), r)
	}
	return out
}

// rowBounds: bounds of a row with the coefficient a of a column whose bounds are to be those of want: each is the column's own times a, looser, or infinite. Where it is just the column's own, that may become looser.
func rowBounds(want api.Col, own *api.Col, a *big.Rat, pick func(n int) int) (lo, hi api.Ext) {
	side := func(bound api.Ext, own *api.Ext, infinite api.Ext, away int64) api.Ext {
		kind := pick(4)
		if bound.Inf != 0 || kind == 0 {
			return infinite
		}
		v := toBig(bound.V)
		further := fromBig(new(big.Rat).Add(v, big.NewRat(away, 3)))
		switch {
		case kind == 1:
			return api.Ext{V: further}
		case kind == 2 && pick(2) == 0:
			*own = infinite
		case kind == 2:
			*own = api.Ext{V: further}
		}
		return api.Ext{V: fromBig(v)}
	}
	lo, hi = side(want.Lo, &own.Lo, sample.Low(), -1), side(want.Hi, &own.Hi, sample.High(), 1)
	scaled := func(bound api.Ext) *big.Rat {
		if bound.Inf != 0 {
			return nil
		}
		return new(big.Rat).Mul(toBig(bound.V), a)
	}
	if a.Sign() < 0 {
		return fromBound(scaled(hi), -1), fromBound(scaled(lo), 1)
	}
	return fromBound(scaled(lo), -1), fromBound(scaled(hi), 1)
}

// TestGrown: what is known of a model, not from simplex, is taken back to models of which that one is left.
func TestGrown(t *testing.T) {
	count := map[string]int{}
	for i, k := range trial.Samples() {
		if len(k.M.Cols) > 20 {
			continue
		}
		k = thick(k)
		for turn := range 4 {
			m := grow(k.M, uint64(4*i+turn))
			s := fresh(m)
			r, o, e := single.Sweep(m, s)
			if same, _ := model.Equal(r, k.M); e != api.OK || o.Kind != api.Went || !same {
				t.Fatalf("P18.1: of %v: %v, %d, %d, want %v", m, r, o.Kind, e, k.M)
			}
			if fault := trial.Fault(m, r, s, k.K); fault != "" {
				t.Fatalf("P18.2: of %v: %s", m, fault)
			}
			tally(count, k.K)
		}
	}
	checkTally(t, count, 100)
}
