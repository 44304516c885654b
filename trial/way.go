package trial

import (
	"strconv"

	"tableau/api"
	"tableau/farkas"
	"tableau/model"
	"tableau/sample"
	"tableau/simplex"
	"tableau/stack"
)

// Way goes a way of sweeps, one after another on one stack, as long as they go through, and tells what of DOC.md's P6 and P7 does not hold of it; "" if all of it holds. It answers what is known of the model that is left, too, and the last outcome.
func Way(m api.Model, sweeps ...Sweep) (Known, api.Outcome, string) {
	r, o, s := m, api.Outcome{Kind: api.Went}, made(len(m.Cols), len(m.Rows))
	for i, sweep := range sweeps {
		var e api.Errno
		r, o, e = sweep(r, s)
		if fault := formFault(m, r, s, o, e); fault != "" {
			return Known{}, o, "sweep " + strconv.Itoa(i) + ": " + fault
		}
		if o.Kind != api.Went {
			break
		}
	}
	k, fault := Left(m, r, s, o)
	return k, o, fault
}

// Left tells what of P6 and P7 does not hold of m, of r, which a script has made of it, of the stack behind it, and of how it ended; "" if all of it holds. It answers what is known of r, too.
func Left(m, r api.Model, s *stack.Stack, o api.Outcome) (Known, string) {
	if fault := formFault(m, r, s, o, api.OK); fault != "" {
		return Known{}, fault
	}
	switch o.Kind {
	case api.Empty:
		return Known{}, emptyFault(m, r, s, o.Cert)
	case api.Pending:
		k := Of(r)
		return k, PendingFault(m, r, s, o.D, k)
	}
	k := Of(r)
	return k, Fault(m, r, s, k)
}

// formFault: is what a sweep answered as every answer of one is?
func formFault(m, r api.Model, s *stack.Stack, o api.Outcome, e api.Errno) string {
	a, b, n, k := s.Size()
	switch {
	case e != api.OK:
		return "the error " + strconv.Itoa(int(e))
	case model.Check(r) != api.OK:
		return "a model that is not well formed"
	case a != len(m.Cols) || b != len(m.Rows) || n != len(r.Cols) || k != len(r.Rows):
		return "the stack is of other sizes"
	case o.Kind != api.Went && o.Kind != api.Empty && o.Kind != api.Pending:
		return "an outcome of the kind " + strconv.Itoa(o.Kind)
	case o.Kind != api.Pending && len(o.D) > 0:
		return "a direction beside the outcome"
	case o.Kind != api.Empty && len(o.Cert.RowLo)+len(o.Cert.RowHi)+len(o.Cert.ColLo)+len(o.Cert.ColHi) > 0:
		return "a certificate beside the outcome"
	}
	return ""
}

func emptyFault(m, r api.Model, s *stack.Stack, c api.Cert) string {
	if is, e := farkas.Valid(r, c); e != api.OK || !is {
		return "Empty, and the certificate is none"
	}
	back, e := s.Cert(c)
	if is, f := farkas.Valid(m, back); e != api.OK || f != api.OK || !is {
		return "Empty, and the certificate is taken to none"
	}
	if a, _ := simplex.Solve(m); a.Status != api.Infeasible {
		return "Empty, and there is a point"
	}
	return ""
}

// A Sampled model is one of package sample's, with what that knows of it: not from simplex.
type Sampled struct {
	M api.Model
	K Known
}

// Samples: all models with KKT points, optimal bases, certificates and rays that package sample has.
func Samples() []Sampled {
	var out []Sampled
	for _, k := range sample.Kkts() {
		out = append(out, Sampled{k.M, Known{Points: [][]api.Rat{k.P.X}, Kkts: []api.Point{k.P}}})
	}
	for _, k := range sample.Bases() {
		out = append(out, Sampled{k.M, Known{Kkts: []api.Point{k.P}, Bases: []stack.Corner{{Basis: k.B, Point: k.P}}}})
	}
	for _, k := range sample.Certs() {
		out = append(out, Sampled{k.M, Known{Certs: []api.Cert{k.C, twoSided(k.M, k.C)}}})
	}
	for _, k := range sample.Rays() {
		out = append(out, Sampled{k.M, Known{Points: [][]api.Rat{k.R.X}, Dirs: [][]api.Rat{k.R.D}}})
	}
	return out
}
