package post

import (
	"tableau/api"
	"tableau/model"
	"tableau/presolve"
	"tableau/simplex"
)

// check asks what has an error of its own in the chapter, in the order of the errors' numbers.
func check(m api.Model, r presolve.Result, a api.Answer) api.Errno {
	if e := model.Least(model.Check(m), model.Check(r.Model)); e != api.OK {
		return e
	}
	switch {
	case r.Stack != nil && !fits(m, r):
		return api.ErrUnlike
	case !answered(r, a):
		return api.ErrPoint
	case r.Stack == nil:
		return api.ErrNone
	}
	return api.OK
}

// fits: does the stack lead from a model of m's size to one of the size of what is left?
func fits(m api.Model, r presolve.Result) bool {
	cols, rows, leftCols, leftRows := r.Stack.Size()
	return cols == len(m.Cols) && rows == len(m.Rows) && leftCols == len(r.Model.Cols) && leftRows == len(r.Model.Rows)
}

// answered: is a an answer of what is left? Where nothing was left to answer, it may be anything.
func answered(r presolve.Result, a api.Answer) bool {
	switch r.Outcome.Kind {
	case api.Empty:
		return true
	case api.Went, api.Pending:
		is, _ := simplex.Judge(r.Model, a)
		return is
	}
	return false
}
