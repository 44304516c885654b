package fixed_test

import (
	"math/big"
	"math/rand/v2"
	"slices"
	"strconv"
	"testing"

	"tableau/api"
	"tableau/fixed"
	"tableau/model"
	"tableau/sample"
	"tableau/trial"
)

// anyFixed: has a column bounds that are one number?
func anyFixed(m api.Model) bool {
	_, gone := swept(m)
	return len(gone) > 0
}

// numbers: of either sign, 0, and long ones.
func numbers() []*big.Rat {
	out := []*big.Rat{big.NewRat(2, 1), big.NewRat(-5, 3)}
	for _, r := range sample.Rats() {
		out = append(out, toBig(r))
	}
	return out
}

// grow: a model of which a sweep leaves m: columns of one number are put between its columns, in some of its rows, in all or in none.
func grow(m api.Model, seed uint64) api.Model {
	out, _ := model.Copy(m)
	d := rand.New(rand.NewPCG(seed, 19))
	draw := func() *big.Rat { return numbers()[d.IntN(len(numbers()))] }
	for i := range min(d.IntN(8), api.MaxCols-len(m.Cols)) {
		v, cost, place, often := draw(), draw(), d.IntN(len(out.Cols)+1), d.IntN(3)
		offset := new(big.Rat).Mul(v, cost)
		out.Offset = fromBig(offset.Sub(toBig(out.Offset), offset))
		col := api.Col{Name: "g" + strconv.Itoa(i), Cost: fromBig(cost), Lo: api.Ext{V: fromBig(v)}, Hi: api.Ext{V: fromBig(v)}}
		out.Cols = slices.Insert(out.Cols, place, col)
		for k := range out.Rows {
			a := draw()
			if d.IntN(2) >= often {
				a = new(big.Rat)
			}
			putTerm(&out.Rows[k], place, a, v)
		}
	}
	return out
}

// putTerm: column place, whose variable is v, comes into the row with the coefficient a.
func putTerm(r *api.Row, place int, a, v *big.Rat) {
	at := 0
	for i := range r.Terms {
		if r.Terms[i].Col >= place {
			r.Terms[i].Col++
		} else {
			at = i + 1
		}
	}
	if a.Sign() != 0 {
		r.Terms = slices.Insert(r.Terms, at, api.Term{Col: place, A: fromBig(a)})
		r.Lo, r.Hi = moved(r.Lo, new(big.Rat).Mul(a, v)), moved(r.Hi, new(big.Rat).Mul(a, v))
	}
}

// TestGrown: what is known of a model, not from simplex, is taken back to models of which that one is left.
func TestGrown(t *testing.T) {
	count := map[string]int{}
	for i, k := range trial.Samples() {
		if len(k.M.Cols) > 20 || anyFixed(k.M) {
			continue
		}
		for turn := range 4 {
			m := grow(k.M, uint64(4*i+turn))
			s := fresh(m)
			r, o, e := fixed.Sweep(m, s)
			if same, _ := model.Equal(r, k.M); e != api.OK || o.Kind != api.Went || !same {
				t.Fatalf("P19.1: of %v: %v, %d, %d, want %v", m, r, o.Kind, e, k.M)
			}
			if fault := trial.Fault(m, r, s, k.K); fault != "" {
				t.Fatalf("P19.2: of %v: %s", m, fault)
			}
			tally(count, k.K)
		}
	}
	checkTally(t, count, 50)
}
