package post

import (
	"tableau/api"
	"tableau/cross"
	"tableau/model"
	"tableau/rat"
	"tableau/stack"
)

// These take back what shows an answer. Of what a script answered they have no error to tell; but a result may have been put together by hand: then the errors of the layers below are those of the answer.

func infeasible(s *stack.Stack, c api.Cert) (api.Answer, api.Errno) {
	back, e := s.Cert(c)
	if e != api.OK {
		return api.Answer{}, e
	}
	return api.Answer{Status: api.Infeasible, Cert: back}, api.OK
}

func unbounded(s *stack.Stack, x, d []api.Rat) (api.Answer, api.Errno) {
	from, e := s.Primal(x)
	way, f := s.Lift(d)
	if least := model.Least(e, f); least != api.OK {
		return api.Answer{}, least
	}
	return api.Answer{Status: api.Unbounded, Ray: api.Ray{X: from, D: way}}, api.OK
}

func optimal(m api.Model, s *stack.Stack, a api.Answer) (api.Answer, api.Errno) {
	b, p, e := corner(m, s, a)
	if e != api.OK {
		return api.Answer{}, e
	}
	return api.Answer{Status: api.Optimal, Value: rat.Copy(a.Value), Point: p, Basis: b}, api.OK
}

// corner answers an optimal basis of m, and its point. Behind a bound that was tightened no basis is taken back, as what rests at that bound may be at none in m: there is a KKT point alone. The basis of what is left is a hint: where no bound that was tightened matters, and nothing went, it is one of m, too.
func corner(m api.Model, s *stack.Stack, a api.Answer) (api.Basis, api.Point, api.Errno) {
	if !s.Tightened() {
		return s.Basis(a.Basis, a.Point)
	}
	p, _ := s.Dual(a.Point)
	return cross.Over(m, p, a.Basis)
}
