package sample

import (
	"strconv"

	"tableau/api"
)

// Mixed: a model for each seed, with up to seven columns and rows, small whole numbers and no crossed bounds: infeasible, unbounded and optimal ones, and many points at which more bounds are met than there are columns.
func Mixed(seed int) api.Model {
	d := &draw{state: uint64(seed) + 1<<40}
	d.below(2)
	m := api.Model{Offset: d.frac()}
	costs := d.below(5)
	for i := range d.below(8) {
		lo, hi := d.ordered()
		m.Cols = append(m.Cols, Col("x"+strconv.Itoa(i), min(costs, 1)*(d.below(7)-3), lo, hi))
	}
	for i := range d.below(8) {
		lo, hi := d.ordered()
		r := api.Row{Name: "r" + strconv.Itoa(i), Lo: lo, Hi: hi}
		for col := range m.Cols {
			if a := d.below(7) - 3; a != 0 && d.below(3) > 0 {
				r.Terms = append(r.Terms, Term(col, a))
			}
		}
		m.Rows = append(m.Rows, r)
	}
	return m
}

// ordered: bounds of each kind that are not crossed, one of them 0 as often as not.
func (d *draw) ordered() (lo, hi api.Ext) {
	low := min(d.below(7)-3, 0)
	high := low + d.below(4)
	switch d.below(6) {
	case 0, 1:
		return At(low), High()
	case 2:
		return Low(), At(high)
	case 3:
		return Low(), High()
	case 4:
		return At(low), At(low)
	}
	return At(low), At(high)
}
