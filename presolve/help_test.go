package presolve_test

import (
	"slices"
	"strings"
	"testing"

	"tableau/api"
	"tableau/model"
	"tableau/presolve"
	"tableau/stack"
	"tableau/text"
	"tableau/trial"
)

func sameRat(a, b api.Rat) bool {
	return a.Neg == b.Neg && slices.Equal(a.Num, b.Num) && slices.Equal(a.Den, b.Den)
}

func sameRats(x, y []api.Rat) bool { return slices.EqualFunc(x, y, sameRat) }

func sameCert(c, d api.Cert) bool {
	return sameRats(c.RowLo, d.RowLo) && sameRats(c.RowHi, d.RowHi) && sameRats(c.ColLo, d.ColLo) && sameRats(c.ColHi, d.ColHi)
}

func sameOutcome(a, b api.Outcome) bool {
	return a.Kind == b.Kind && sameCert(a.Cert, b.Cert) && sameRats(a.D, b.D)
}

// sameResult: the same model, the same outcome, and stacks that tell the same.
func sameResult(a, b presolve.Result) bool {
	same, e := model.Equal(a.Model, b.Model)
	return e == api.OK && same && sameOutcome(a.Outcome, b.Outcome) && trial.Told(a.Stack) == trial.Told(b.Stack)
}

// isNothing: is it what stands beside an error?
func isNothing(r presolve.Result) bool {
	return isNoModel(r.Model) && r.Stack == nil && isNoOutcome(r.Outcome)
}

func isNoModel(m api.Model) bool {
	return !m.Offset.Neg && len(m.Offset.Num)+len(m.Offset.Den)+len(m.Cols)+len(m.Rows) == 0
}

func isNoOutcome(o api.Outcome) bool { return sameOutcome(o, api.Outcome{}) }

// read: the model of a text whose lines are cut by /, with end as the last one; a fraction's / stands between digits.
func read(t *testing.T, s string) api.Model {
	t.Helper()
	m, at, e := text.Parse(strings.ReplaceAll(s, " / ", "\n") + "\nend\n")
	if e != api.OK {
		t.Fatalf("%q is no model: %d at %d", s, e, at)
	}
	return m
}

// fresh: a stack for the model, without steps.
func fresh(m api.Model) *stack.Stack {
	s, _ := stack.New(len(m.Cols), len(m.Rows))
	return s
}
