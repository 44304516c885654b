package twin

import (
	"tableau/api"
	"tableau/rat"
	"tableau/stack"
)

// twin is the step by which a row goes that is a multiple of one ahead of it. Where it comes back, it takes from that one what leaned on a bound that was its own alone.
type twin struct {
	stack.Row
	stack.Lent
	first int // the row that stays: as it stands ahead of the other one, its place is the same on both sides of the step
}

// Dual: the sign of the first row's multiplier tells which bound it needs.
func (w twin) Dual(p api.Point) api.Point {
	p = w.Row.Dual(p)
	if w.Bears(p.Y[w.first]) {
		w.lay(p)
	}
	return p
}

// Basis: the row rests where the first one did at a bound that was the row's alone, and the first one is Basic.
func (w twin) Basis(c stack.Corner) stack.Corner {
	c = w.Row.Basis(c)
	if w.Rest(c.Point.Y[w.first], &c.Basis.Rows[w.first], &c.Basis.Rows[w.At]) {
		w.lay(c.Point)
	}
	return c
}

// Cert: the row takes over the multipliers of its bounds.
func (w twin) Cert(c api.Cert) api.Cert {
	c = w.Row.Cert(c)
	c.RowLo[w.At], c.RowHi[w.At] = w.Multipliers(&c.RowLo[w.first], &c.RowHi[w.first])
	return c
}

// lay lays the first row's multiplier on the row, in p's own lists. The reduced costs stay what they are by that.
func (w twin) lay(p api.Point) {
	p.Y[w.At], p.Y[w.first] = w.Share(p.Y[w.first]), rat.Of(0)
}
