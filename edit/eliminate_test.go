package edit_test

import (
	"math/big"
	"slices"
	"testing"

	"tableau/api"
	"tableau/edit"
	"tableau/guard"
	"tableau/model"
	"tableau/sample"
)

// eliminated: by the library's numbers, what is left where the row tells the column.
func eliminated(p plain, row, col int) plain {
	e := p.rows[row]
	over := func(n *big.Rat) *big.Rat { return new(big.Rat).Quo(n, e.a[col]) }
	for i := range p.rows {
		r := &p.rows[i]
		by := minus(over(r.a[col]))
		if i == row || by.Sign() == 0 {
			continue
		}
		for k := range r.a {
			r.a[k] = plus(r.a[k], times(by, e.a[k]))
		}
		shift := func(x *big.Rat) *big.Rat { return plus(x, times(by, e.lo)) }
		r.lo, r.hi = onBound(r.lo, shift), onBound(r.hi, shift)
	}
	by := over(p.cols[col].cost)
	for k := range p.cols {
		p.cols[k].cost = plus(p.cols[k].cost, minus(times(by, e.a[k])))
	}
	p.offset = plus(p.offset, times(by, e.lo))
	p.rows = slices.Delete(p.rows, row, row+1)
	return withoutCol(p, col)
}

// TestEliminate: each column of a row of each model, which is made an equation, long numbers too.
func TestEliminate(t *testing.T) {
	tried := 0
	for seed := range 400 {
		m := sample.Mixed(seed)
		if seed < len(sample.Models()) {
			m = sample.Models()[seed]
		}
		for _, row := range places(len(m.Rows)) {
			v := sample.Rats()[(seed+row)%len(sample.Rats())]
			m.Rows[row].Lo, m.Rows[row].Hi = api.Ext{V: v}, api.Ext{V: v}
			for i, term := range m.Rows[row].Terms {
				if i > 3 && i < len(m.Rows[row].Terms)-1 {
					continue
				}
				got, _ := model.Copy(m)
				edit.Eliminate(&got, row, term.Col)
				checkModel(t, "Eliminate", got, model.Check(got), eliminated(toPlain(m), row, term.Col))
				tried++
			}
		}
	}
	if tried < 500 {
		t.Errorf("only %d columns were tried", tried)
	}
}

// TestEliminateMemory: what is left has no list twice.
func TestEliminateMemory(t *testing.T) {
	for seed := range 100 {
		m := sample.Mixed(seed)
		for row := range m.Rows {
			m.Rows[row].Lo, m.Rows[row].Hi = sample.At(seed-50), sample.At(seed-50)
			for _, term := range m.Rows[row].Terms {
				own := guard.Model(m)
				fault := guard.Fault(func(b *guard.Book) { b.Model(own) }, func(b *guard.Book) {
					got, _ := model.Copy(own)
					edit.Eliminate(&got, row, term.Col)
					b.Model(got)
				})
				if fault != "" {
					t.Fatalf("Eliminate, memory, of %v: %s", m, fault)
				}
			}
		}
	}
}
