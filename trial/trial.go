package trial

import (
	"slices"
	"strconv"

	"tableau/api"
	"tableau/basis"
	"tableau/dual"
	"tableau/farkas"
	"tableau/point"
	"tableau/rat"
	"tableau/ray"
	"tableau/simplex"
	"tableau/stack"
)

// Fault tells what of DOC.md's P6 and P7 does not hold of m, of r, which a script that went through has made of it, and of the stack behind it, at all that is known of r; "" if all of it holds.
func Fault(m, r api.Model, s *stack.Stack, k Known) string {
	if fault := statusFault(m, r); fault != "" {
		return fault
	}
	for i, x := range k.Points {
		if fault := pointFault(m, r, s, x); fault != "" {
			return "point " + strconv.Itoa(i) + ": " + fault
		}
	}
	for i, d := range k.Dirs {
		if fault := dirFault(m, r, s, d); fault != "" {
			return "direction " + strconv.Itoa(i) + ": " + fault
		}
	}
	for i, p := range k.Kkts {
		if fault := kktFault(m, s, p); fault != "" {
			return "KKT point " + strconv.Itoa(i) + ": " + fault
		}
	}
	for i, c := range k.Bases {
		if fault := basisFault(m, s, c); fault != "" {
			return "basis " + strconv.Itoa(i) + ": " + fault
		}
	}
	return certsFault(m, s, k.Certs)
}

// PendingFault tells what of P6 and P7 does not hold where the script ended with d pending, at all that is known of r.
func PendingFault(m, r api.Model, s *stack.Stack, d []api.Rat, k Known) string {
	lifted, e := s.Lift(d)
	if is, f := ray.Recedes(m, lifted); e != api.OK || f != api.OK || !is {
		return "the direction is taken to one that doesn't recede"
	}
	if !slope(m, lifted).Neg {
		return "the value does not fall in the direction"
	}
	if priced(r) {
		return "a cost, or an offset, beside the direction"
	}
	a, _ := simplex.Solve(m)
	if b, _ := simplex.Solve(r); (a.Status == api.Infeasible) != (b.Status == api.Infeasible) {
		return "one of the two models has a point, and the other one has none"
	}
	for i, x := range k.Points {
		back, e := s.Primal(x)
		if is, f := ray.Valid(m, api.Ray{X: back, D: lifted}); e != api.OK || f != api.OK || !is {
			return "point " + strconv.Itoa(i) + " is taken to none of a ray"
		}
	}
	return certsFault(m, s, k.Certs)
}

// priced: is a cost other than 0, or the offset?
func priced(m api.Model) bool {
	return len(m.Offset.Num) > 0 || slices.ContainsFunc(m.Cols, func(c api.Col) bool { return len(c.Cost.Num) > 0 })
}

func certsFault(m api.Model, s *stack.Stack, certs []api.Cert) string {
	for i, c := range certs {
		back, e := s.Cert(c)
		if is, f := farkas.Valid(m, back); e != api.OK || f != api.OK || !is {
			return "certificate " + strconv.Itoa(i) + " is taken to none"
		}
	}
	return ""
}

func statusFault(m, r api.Model) string {
	a, e := simplex.Solve(m)
	b, f := simplex.Solve(r)
	switch {
	case e != api.OK || f != api.OK:
		return "no answer: " + strconv.Itoa(int(e)) + ", " + strconv.Itoa(int(f))
	case a.Status != b.Status:
		return "another status: " + strconv.Itoa(a.Status) + " became " + strconv.Itoa(b.Status)
	case !same(a.Value, b.Value):
		return "another value"
	}
	return ""
}

func pointFault(m, r api.Model, s *stack.Stack, x []api.Rat) string {
	back, e := s.Primal(x)
	if is, f := point.Feasible(m, back); e != api.OK || f != api.OK || !is {
		return "it is taken to none"
	}
	v, _ := point.Value(m, back)
	if w, _ := point.Value(r, x); !same(v, w) {
		return "it has another value"
	}
	return ""
}

func dirFault(m, r api.Model, s *stack.Stack, d []api.Rat) string {
	back, e := s.Lift(d)
	if is, f := ray.Recedes(m, back); e != api.OK || f != api.OK || !is {
		return "it is taken to one that doesn't recede"
	}
	if !same(slope(m, back), slope(r, d)) {
		return "its costs have another sum"
	}
	return ""
}

func kktFault(m api.Model, s *stack.Stack, p api.Point) string {
	back, e := s.Dual(p)
	if is, f := dual.Holds(m, back); e != api.OK || f != api.OK || !is {
		return "it is taken to none"
	}
	if x, _ := s.Primal(p.X); !slices.EqualFunc(x, back.X, same) {
		return "X is not as Primal takes it"
	}
	return ""
}

func basisFault(m api.Model, s *stack.Stack, c stack.Corner) string {
	b, p, e := s.Basis(c.Basis, c.Point)
	if s.Tightened() {
		if e != api.ErrPass {
			return "behind a bound that was tightened: " + strconv.Itoa(int(e))
		}
		return ""
	}
	if is, f := basis.Optimal(m, b, p); e != api.OK || f != api.OK || !is {
		return "it is taken to none that is optimal"
	}
	if x, _ := s.Primal(c.Point.X); !slices.EqualFunc(x, p.X, same) {
		return "X is not as Primal takes it"
	}
	return ""
}

// slope: the sum of costs times d.
func slope(m api.Model, d []api.Rat) api.Rat {
	m.Offset = rat.Of(0)
	v, _ := point.Value(m, d)
	return v
}

func same(a, b api.Rat) bool {
	return a.Neg == b.Neg && slices.Equal(a.Num, b.Num) && slices.Equal(a.Den, b.Den)
}
