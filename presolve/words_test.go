package presolve_test

import (
	"slices"

	"tableau/api"
	"tableau/dominate"
	"tableau/fixed"
	"tableau/model"
	"tableau/pairup"
	"tableau/presolve"
	"tableau/single"
	"tableau/subst"
	"tableau/tighten"
	"tableau/trial"
	"tableau/twin"
)

// The chapter's words, with the passes called one by one, and a queue that is a list.

func passes() []trial.Sweep {
	return []trial.Sweep{single.Sweep, fixed.Sweep, dominate.Sweep, pairup.Sweep, subst.Sweep, twin.Sweep, tighten.Sweep}
}

// begun: no sweep.
func begun(m api.Model) presolve.Result {
	return presolve.Result{Model: m, Stack: fresh(m), Outcome: api.Outcome{Kind: 1}}
}

// swept: one sweep more, if the last one went through.
func swept(r presolve.Result, code int) presolve.Result {
	if r.Outcome.Kind == 1 {
		r.Model, r.Outcome, _ = passes()[code-1](r.Model, r.Stack)
	}
	return r
}

// ran: what Run must answer.
func ran(m api.Model, script []int) presolve.Result {
	r := begun(m)
	for _, code := range script {
		r = swept(r, code)
	}
	return r
}

// found: what Auto must answer. All keys are the codes themselves: so the first one is the least.
func found(m api.Model, limit int) (presolve.Result, []int) {
	r, waiting := begun(m), []int{1, 2, 3, 4, 5, 6, 7}
	var codes []int
	for len(waiting) > 0 && len(codes) < limit {
		code := slices.Min(waiting)
		waiting = slices.DeleteFunc(waiting, func(c int) bool { return c == code })
		ahead := r.Model
		r = swept(r, code)
		codes = append(codes, code)
		if r.Outcome.Kind != 1 {
			break
		}
		if same, _ := model.Equal(ahead, r.Model); same {
			continue
		}
		for c := 1; c <= 7; c++ {
			if !slices.Contains(waiting, c) {
				waiting = append(waiting, c)
			}
		}
	}
	return r, codes
}
