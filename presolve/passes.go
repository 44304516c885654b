package presolve

import (
	"tableau/api"
	"tableau/dominate"
	"tableau/fixed"
	"tableau/pairup"
	"tableau/single"
	"tableau/stack"
	"tableau/subst"
	"tableau/tighten"
	"tableau/twin"
)

// A pass has a name, and what sweeps.
type pass struct {
	name  string
	sweep func(m api.Model, s *stack.Stack) (api.Model, api.Outcome, api.Errno)
}

// passes: in the order of their codes, which begin at 1.
func passes() []pass {
	return []pass{
		api.PassSingle - 1:   {"single", single.Sweep},
		api.PassFixed - 1:    {"fixed", fixed.Sweep},
		api.PassDominate - 1: {"dominate", dominate.Sweep},
		api.PassPairup - 1:   {"pairup", pairup.Sweep},
		api.PassSubst - 1:    {"subst", subst.Sweep},
		api.PassTwin - 1:     {"twin", twin.Sweep},
		api.PassTighten - 1:  {"tighten", tighten.Sweep},
	}
}

// passOf wants a code that is one.
func passOf(code int) pass { return passes()[code-1] }

// on sweeps what has come of the sweeps ahead.
func (p pass) on(r Result) Result {
	r.Model, r.Outcome, _ = p.sweep(r.Model, r.Stack)
	return r
}

// checkCodes: is each of them the code of a pass?
func checkCodes(codes ...int) api.Errno {
	for _, code := range codes {
		if code < api.PassSingle || code > api.PassTighten {
			return api.ErrPass
		}
	}
	return api.OK
}

// CheckScript: what is wrong with a script, whatever the model. It is for the layers above, which ask ahead of a run.
func CheckScript(script []int) api.Errno {
	if len(script) > api.MaxScript {
		return api.ErrLong
	}
	return checkCodes(script...)
}

func checkLimit(limit int) api.Errno {
	if limit < 0 || limit > api.MaxSweeps {
		return api.ErrArg
	}
	return api.OK
}
