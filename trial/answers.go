package trial

import (
	"slices"

	"tableau/api"
	"tableau/rat"
	"tableau/sample"
)

// SameAnswer: are two answers alike, field by field?
func SameAnswer(a, b api.Answer) bool {
	alike := a.Status == b.Status && same(a.Value, b.Value)
	for i, list := range numbers(&a) {
		alike = alike && slices.EqualFunc(*list, *numbers(&b)[i], same)
	}
	return alike && slices.Equal(a.Basis.Cols, b.Basis.Cols) && slices.Equal(a.Basis.Rows, b.Basis.Rows)
}

// numbers: the lists of numbers of an answer, to be changed in place.
func numbers(a *api.Answer) []*[]api.Rat {
	return []*[]api.Rat{&a.Point.X, &a.Point.Y, &a.Point.Z, &a.Cert.RowLo, &a.Cert.RowHi, &a.Cert.ColLo, &a.Cert.ColHi, &a.Ray.X, &a.Ray.D}
}

// Wrongs: what is mostly no answer where a is one: other statuses, another value, other numbers and statuses of a basis, such as are not in form among them, other lengths, and fields beside those that a has.
func Wrongs(a api.Answer) []api.Answer {
	var out []api.Answer
	put := func(turn func(a *api.Answer)) {
		own := a
		turn(&own)
		out = append(out, own)
	}
	for status := -1; status < 5; status++ {
		if status != a.Status {
			put(func(a *api.Answer) { a.Status = status })
			out = append(out, api.Answer{Status: status})
		}
	}
	put(func(a *api.Answer) { a.Value = sample.Frac(12345, 7) })
	put(func(a *api.Answer) { a.Value = api.Rat{Neg: true} })
	for i, list := range numbers(&a) {
		put(func(a *api.Answer) { *numbers(a)[i] = append(slices.Clone(*list), rat.Of(0)) })
		put(func(a *api.Answer) { *numbers(a)[i] = append(slices.Clone(*list), api.Rat{}) })
		for place, r := range *list {
			less, _ := rat.Sub(r, rat.Of(100))
			for _, other := range []api.Rat{less, {Neg: r.Neg, Num: r.Num}} {
				put(func(a *api.Answer) {
					*numbers(a)[i] = slices.Clone(*list)
					(*numbers(a)[i])[place] = other
				})
			}
		}
	}
	for _, list := range []func(a *api.Answer) *[]api.Status{func(a *api.Answer) *[]api.Status { return &a.Basis.Cols }, func(a *api.Answer) *[]api.Status { return &a.Basis.Rows }} {
		put(func(a *api.Answer) { *list(a) = append(slices.Clone(*list(a)), api.Basic) })
		for place := range *list(&a) {
			for status := api.Status(-1); status < 5; status++ {
				put(func(a *api.Answer) {
					*list(a) = slices.Clone(*list(a))
					(*list(a))[place] = status
				})
			}
		}
	}
	return out
}
