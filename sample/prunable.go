package sample

import (
	"strconv"

	"tableau/api"
)

// Prunable: a small model for each seed, with much that passes take out: rows of no term, of one and of two, equations and rows that are multiples of others, columns whose bounds are one number, free ones and such as stand in no row. Its bounds are few numbers, so that many are alike; now and then they are crossed.
func Prunable(seed int) api.Model {
	d := &draw{state: uint64(seed) + 1<<50}
	d.below(2)
	m := api.Model{Offset: d.frac()}
	for i := range 1 + d.below(4) {
		lo, hi := d.few()
		m.Cols = append(m.Cols, Col("x"+strconv.Itoa(i), d.below(5)-2, lo, hi))
	}
	for i := range d.below(6) {
		lo, hi := d.few()
		m.Rows = append(m.Rows, api.Row{Name: "r" + strconv.Itoa(i), Lo: lo, Hi: hi, Terms: d.fewTerms(m)})
	}
	return m
}

// few: bounds of each kind.
func (d *draw) few() (lo, hi api.Ext) {
	low := d.below(3) - 1
	high := low + d.below(3)
	switch d.below(10) {
	case 0, 1:
		return At(low), High()
	case 2, 3:
		return Low(), At(high)
	case 4:
		return Low(), High()
	case 5, 6:
		return At(low), At(low)
	case 7:
		return At(low), At(low - d.below(2))
	}
	return At(low), At(high)
}

// fewTerms: none, one, two, some, or those of a row that is there already, times a number.
func (d *draw) fewTerms(m api.Model) []api.Term {
	var out []api.Term
	n, k := len(m.Cols), len(m.Rows)
	switch kind := d.below(7); {
	case kind == 0:
	case kind < 3:
		out = append(out, api.Term{Col: d.below(n), A: d.factor()})
	case kind == 3 && k > 0:
		by := d.factor()
		for _, t := range m.Rows[d.below(k)].Terms {
			out = append(out, api.Term{Col: t.Col, A: plusTimes(Frac(0, 1), by, t.A)})
		}
	default:
		for col := range n {
			if d.below(2) == 0 {
				out = append(out, api.Term{Col: col, A: d.factor()})
			}
		}
	}
	return out
}

// factor: 1 or -1 as often as not.
func (d *draw) factor() api.Rat {
	sign := 1 - 2*d.below(2)
	switch d.below(4) {
	case 0:
		return Frac(2*sign, 1)
	case 1:
		return Frac(sign, 2)
	}
	return Frac(sign, 1)
}
