package stack

import (
	"slices"

	"tableau/api"
	"tableau/model"
	"tableau/point"
	"tableau/rat"
)

// back takes what stands behind the last step to what stands ahead of the first one, step by step, by the method that it is handed.
func back[T any](s *Stack, way func(Step, T) T, at T) T {
	for l := s.last; l != nil; l = l.ahead {
		at = way(l.step, at)
	}
	return at
}

// Primal: a point of R taken back to M. Lift: a direction.
func (s *Stack) Primal(x []api.Rat) ([]api.Rat, api.Errno) { return s.numbers(Step.Primal, x) }

func (s *Stack) Lift(d []api.Rat) ([]api.Rat, api.Errno) { return s.numbers(Step.Lift, d) }

func (s *Stack) numbers(way func(Step, []api.Rat) []api.Rat, list []api.Rat) ([]api.Rat, api.Errno) {
	if s == nil {
		return nil, api.ErrNone
	}
	if e := point.Numbers(list, s.left.cols); e != api.OK {
		return nil, e
	}
	return back(s, way, copied(list)), api.OK
}

// Dual: a KKT point of R taken back to M.
func (s *Stack) Dual(p api.Point) (api.Point, api.Errno) {
	if s == nil {
		return api.Point{}, api.ErrNone
	}
	if e := s.checkPoint(p); e != api.OK {
		return api.Point{}, e
	}
	return back(s, Step.Dual, copiedPoint(p)), api.OK
}

// Basis: an optimal basis of R and its point taken back to M.
func (s *Stack) Basis(b api.Basis, p api.Point) (api.Basis, api.Point, api.Errno) {
	if s == nil {
		return api.Basis{}, api.Point{}, api.ErrNone
	}
	if e := s.checkCorner(b, p); e != api.OK {
		return api.Basis{}, api.Point{}, e
	}
	own := api.Basis{Cols: slices.Clone(b.Cols), Rows: slices.Clone(b.Rows)}
	c := back(s, Step.Basis, Corner{Basis: own, Point: copiedPoint(p)})
	return c.Basis, c.Point, api.OK
}

// Cert: multipliers that show that R is empty, taken back to M.
func (s *Stack) Cert(c api.Cert) (api.Cert, api.Errno) {
	if s == nil {
		return api.Cert{}, api.ErrNone
	}
	n, k := s.left.cols, s.left.rows
	if e := model.Least(point.Numbers(c.RowLo, k), point.Numbers(c.RowHi, k), point.Numbers(c.ColLo, n), point.Numbers(c.ColHi, n)); e != api.OK {
		return api.Cert{}, e
	}
	own := api.Cert{RowLo: copied(c.RowLo), RowHi: copied(c.RowHi), ColLo: copied(c.ColLo), ColHi: copied(c.ColHi)}
	return back(s, Step.Cert, own), api.OK
}

func (s *Stack) checkPoint(p api.Point) api.Errno {
	return model.Least(point.Numbers(p.X, s.left.cols), point.Numbers(p.Y, s.left.rows), point.Numbers(p.Z, s.left.cols))
}

func (s *Stack) checkCorner(b api.Basis, p api.Point) api.Errno {
	e := model.Least(checkStatuses(b.Cols, s.left.cols), checkStatuses(b.Rows, s.left.rows), s.checkPoint(p))
	if e == api.OK && s.tightened {
		return api.ErrPass
	}
	return e
}

func checkStatuses(list []api.Status, n int) api.Errno {
	for _, status := range list {
		if status < api.Basic || status > api.Free {
			return api.ErrForm
		}
	}
	if len(list) != n {
		return api.ErrUnlike
	}
	return api.OK
}

func copiedPoint(p api.Point) api.Point {
	return api.Point{X: copied(p.X), Y: copied(p.Y), Z: copied(p.Z)}
}

// copied: the limbs are new memory, too.
func copied(list []api.Rat) []api.Rat {
	out := make([]api.Rat, len(list))
	for place, r := range list {
		out[place] = rat.Copy(r)
	}
	return out
}
