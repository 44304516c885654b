package tighten

import (
	"tableau/api"
	"tableau/ext"
)

// An end is one of the two bounds of a column, or of a row.
type end int

const (
	low end = iota
	high
)

func (e end) other() end { return high - e }

// of: the end of x where a x is at this end. It turns round where a is below 0.
func (e end) of(a api.Rat) end {
	if a.Neg {
		return e.other()
	}
	return e
}

// pick: what belongs to the lower bound, or to the upper one.
func pick[T any](e end, lo, hi T) T {
	if e == low {
		return lo
	}
	return hi
}

// stricter: is v so, as a bound of this end? Both are in form.
func (e end) stricter(v api.Rat, bound api.Ext) bool {
	order, _ := ext.Cmp(api.Ext{V: v}, bound)
	return e == low && order > 0 || e == high && order < 0
}

// farthest: how far away from this end a x can be.
func (e end) farthest(c api.Col, a api.Rat) api.Ext {
	far, _ := ext.Scale(pick(e.other().of(a), c.Lo, c.Hi), a)
	return far
}

// leans: does this reduced cost need a bound of this end?
func (e end) leans(z api.Rat) bool { return len(z.Num) > 0 && z.Neg == (e == high) }
