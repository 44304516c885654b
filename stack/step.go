package stack

import (
	"slices"

	"tableau/api"
	"tableau/rat"
)

// A Step is one change of a model. Its methods take what stands behind it, of the model that it left, to what stands ahead of it.
//
// The lists that a method is handed are its own to change. What it puts into them is new memory: so no answer shares any with a step.
type Step interface {
	Primal(x []api.Rat) []api.Rat
	Lift(d []api.Rat) []api.Rat
	Dual(p api.Point) api.Point
	Basis(c Corner) Corner
	Cert(c api.Cert) api.Cert
	Gone() (cols, rows int) // how many of them went
	Tightens() bool
}

// A Corner is a basis and its point.
type Corner struct {
	Basis api.Basis
	Point api.Point
}

// Exact is what steps have in common that tighten no bound.
type Exact struct{}

// Tightens: it does not.
func (Exact) Tightens() bool { return false }

// Stays is what steps have in common that leave the columns where they are.
type Stays struct{}

// Primal: the numbers stay.
func (Stays) Primal(x []api.Rat) []api.Rat { return x }

// Lift: the direction stays.
func (Stays) Lift(d []api.Rat) []api.Rat { return d }

// Row is the step by which a row goes, and what steps have in common by which one does: it comes back as if it asked nothing. That is enough for a row without terms; another step lays on it what its row has to bear.
type Row struct {
	Stays
	Exact
	At int // its place in the model ahead of the step
}

// Gone: one row.
func (r Row) Gone() (cols, rows int) { return 0, 1 }

// Dual: its multiplier is 0.
func (r Row) Dual(p api.Point) api.Point {
	p.Y = slices.Insert(p.Y, r.At, rat.Of(0))
	return p
}

// Basis: it is Basic.
func (r Row) Basis(c Corner) Corner {
	c.Basis.Rows = slices.Insert(c.Basis.Rows, r.At, api.Basic)
	c.Point = r.Dual(c.Point)
	return c
}

// Cert: the multipliers of its bounds are 0.
func (r Row) Cert(c api.Cert) api.Cert {
	c.RowLo = slices.Insert(c.RowLo, r.At, rat.Of(0))
	c.RowHi = slices.Insert(c.RowHi, r.At, rat.Of(0))
	return c
}
