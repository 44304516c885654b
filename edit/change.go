package edit

import (
	"tableau/api"
	"tableau/model"
)

// changed answers a copy of m that change has worked on. There tells whether m has the places that are named, handed what is wrong with the rest that is handed in.
func changed(m api.Model, there bool, handed api.Errno, change func(out *api.Model)) (api.Model, api.Errno) {
	out, e := model.Copy(m)
	// A model that is not well formed has no places that could be asked for.
	if e == api.OK && !there {
		e = api.ErrArg
	}
	if e = model.Least(e, handed); e != api.OK {
		return api.Model{}, e
	}
	change(&out)
	if e := model.Check(out); e != api.OK {
		return api.Model{}, e
	}
	return out, api.OK
}

func isPlace[T any](list []T, place int) bool {
	return 0 <= place && place < len(list)
}

func formError(inForm bool) api.Errno {
	if inForm {
		return api.OK
	}
	return api.ErrForm
}
