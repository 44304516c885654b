package simplex

import (
	"tableau/api"
	"tableau/ext"
	"tableau/rat"
	"tableau/vec"
)

// A table stands at a basis of a model without crossed bounds. Columns and rows are its places, the columns first: so a row's activity is a number as a column's is.
type table struct {
	m      api.Model
	lo, hi []api.Ext
	status []api.Status
	at     []api.Rat
	off    []int  // -1 where at is below lo, 1 where it is above hi
	went   []int  // how often a step moved the place
	basics []int  // the places that are Basic
	lines  []line // what tells their numbers, in the same order
	others []int  // the places that aren't, one in each slot of a line
	aim    line   // what tells the number that is to be made less
}

// newTable wants a basis of m.
func newTable(m api.Model, b api.Basis) *table {
	t := &table{m: m, status: append(append([]api.Status{}, b.Cols...), b.Rows...)}
	for place, c := range m.Cols {
		t.lo, t.hi, t.others = append(t.lo, c.Lo), append(t.hi, c.Hi), append(t.others, place)
	}
	for place, r := range m.Rows {
		t.lo, t.hi, t.basics = append(t.lo, r.Lo), append(t.hi, r.Hi), append(t.basics, len(m.Cols)+place)
		dense, _ := vec.Dense(r.Terms, len(m.Cols))
		t.lines = append(t.lines, newLine(dense))
	}
	t.aim = newLine(noughts(len(m.Cols)))
	t.takeIn()
	t.setNumbers()
	return t
}

// takeIn goes from the lines of all rows to those of the basis. A column that is Basic still stands in the slot of its own place.
func (t *table) takeIn() {
	for col := range t.m.Cols {
		if t.status[col] == api.Basic {
			t.takeInFor(col)
		}
	}
}

// takeInFor takes the column in for a row that is not to be Basic. There is one, as the determinant is not 0.
func (t *table) takeInFor(col int) {
	for i, place := range t.basics {
		if t.status[place] != api.Basic && !isZero(t.lines[i].parts[col]) {
			t.swap(i, col)
			return
		}
	}
}

// swap takes the place in this slot in, for the one that line i tells.
func (t *table) swap(i, slot int) {
	in := t.lines[i].turned(slot)
	for k, l := range t.lines {
		if k != i {
			t.lines[k] = l.with(slot, in)
		}
	}
	t.lines[i], t.aim = in, t.aim.with(slot, in)
	t.basics[i], t.others[slot] = t.others[slot], t.basics[i]
}

// setNumbers reckons the numbers of the basis's point.
func (t *table) setNumbers() {
	n := len(t.lo)
	t.at, t.off, t.went = make([]api.Rat, n), make([]int, n), make([]int, n)
	for _, place := range t.others {
		t.at[place] = t.resting(place)
	}
	for i, place := range t.basics {
		t.at[place] = t.told(t.lines[i])
		t.off[place] = t.side(place)
	}
}

// resting answers the number of a place that is not Basic.
func (t *table) resting(place int) api.Rat {
	switch t.status[place] {
	case api.Lower:
		return t.lo[place].V
	case api.Upper:
		return t.hi[place].V
	}
	return rat.Of(0)
}

// told answers the number that a line tells.
func (t *table) told(l line) api.Rat {
	total := rat.Of(0)
	for slot, place := range t.others {
		if !isZero(l.parts[slot]) {
			total = plus(total, times(l.share(slot), t.at[place]))
		}
	}
	return total
}

// side answers -1, if the place's number is below its bounds, 1, if it is above them, else 0.
func (t *table) side(place int) int {
	number := api.Ext{V: t.at[place]}
	if c, _ := ext.Cmp(number, t.lo[place]); c < 0 {
		return -1
	}
	if c, _ := ext.Cmp(number, t.hi[place]); c > 0 {
		return 1
	}
	return 0
}

// fixed: are the place's bounds one number?
func (t *table) fixed(place int) bool {
	lo, hi := t.lo[place], t.hi[place]
	return lo.Inf == 0 && hi.Inf == 0 && sameRat(lo.V, hi.V)
}

// broken: is a bound broken?
func (t *table) broken() bool {
	for _, side := range t.off {
		if side != 0 {
			return true
		}
	}
	return false
}

// mend asks anew of the places whose bounds were broken, and tells whether one of them keeps them now.
func (t *table) mend() bool {
	some := false
	for place, side := range t.off {
		if side != 0 {
			t.off[place] = t.side(place)
			some = some || t.off[place] == 0
		}
	}
	return some
}

// aimAtBounds: what is to be made less is the sum of what bounds are broken by, but for a number that stays.
func (t *table) aimAtBounds() {
	weights := make([]api.Rat, len(t.off))
	for place, side := range t.off {
		weights[place] = rat.Of(side)
	}
	t.aimAt(weights)
}

// aimAtCosts: what is to be made less is the value, but for the offset.
func (t *table) aimAtCosts() {
	weights := noughts(len(t.off))
	for place, c := range t.m.Cols {
		weights[place] = c.Cost
	}
	t.aimAt(weights)
}

// aimAt: what is to be made less is the sum of all numbers by these weights.
func (t *table) aimAt(weights []api.Rat) {
	own := make([]api.Rat, len(t.others))
	for slot, place := range t.others {
		own[slot] = weights[place]
	}
	t.aim = newLine(own)
	for i, place := range t.basics {
		if w := weights[place]; !isNought(w) {
			t.aim = t.aim.plus(numerator(w), denominator(w), t.lines[i])
		}
	}
}
