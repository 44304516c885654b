// Package sample is for the tests: numbers, bounds, lists of terms and models, those that are well formed and those that are not. All of it is made anew at every call.
package sample

import (
	"math"

	"tableau/api"
	"tableau/rat"
	"tableau/whole"
)

// Frac: n over d, which is not 0.
func Frac(n, d int) api.Rat {
	r, _ := rat.Make(whole.Of(n), whole.Of(d))
	return r
}

// At: the number n as a bound.
func At(n int) api.Ext { return AtFrac(n, 1) }

// AtFrac: n over d as a bound.
func AtFrac(n, d int) api.Ext { return api.Ext{V: Frac(n, d)} }

// Low: minus infinity.
func Low() api.Ext { return api.Ext{Inf: -1, V: Frac(0, 1)} }

// High: infinity.
func High() api.Ext { return api.Ext{Inf: 1, V: Frac(0, 1)} }

// Term: n of a column.
func Term(col, n int) api.Term { return api.Term{Col: col, A: Frac(n, 1)} }

// Col: a column of these.
func Col(name string, cost int, lo, hi api.Ext) api.Col {
	return api.Col{Name: name, Cost: Frac(cost, 1), Lo: lo, Hi: hi}
}

// Row: a row of these.
func Row(name string, lo, hi api.Ext, terms ...api.Term) api.Row {
	return api.Row{Name: name, Lo: lo, Hi: hi, Terms: terms}
}

// Rats: numbers in form, of either sign, 0, fractions, and some of more limbs.
func Rats() []api.Rat {
	return []api.Rat{
		Frac(0, 1), Frac(1, 1), Frac(-1, 1), Frac(2, 3), Frac(-3, 2), Frac(math.MinInt, 7),
		{Neg: true, Num: []uint64{0, 1}, Den: []uint64{3}}, {Num: []uint64{1<<64 - 1}, Den: []uint64{0, 0, 1}},
	}
}

// BadRats: numbers that are not in form, each for a reason of its own.
func BadRats() []api.Rat {
	return []api.Rat{
		{}, {Neg: true}, {Num: []uint64{1}}, {Num: []uint64{1}, Den: []uint64{0}}, {Num: []uint64{2}, Den: []uint64{4}}, {Num: []uint64{0}, Den: []uint64{1}},
		{Neg: true, Den: []uint64{1}}, {Den: []uint64{2}}, {Num: []uint64{5, 0}, Den: []uint64{1}}, {Num: []uint64{1}, Den: []uint64{1, 0}}, {Num: []uint64{3}, Den: []uint64{3}},
	}
}

// BadExts: bounds that are not in form: a V that isn't, infinities beside a number other than 0, an Inf of no kind.
func BadExts() []api.Ext {
	var out []api.Ext
	for _, r := range BadRats() {
		out = append(out, api.Ext{V: r}, api.Ext{Inf: 1, V: r}, api.Ext{Inf: -1, V: r})
	}
	for _, inf := range []int{1, -1, 2, -2, math.MaxInt, math.MinInt} {
		out = append(out, api.Ext{Inf: inf, V: Frac(3, 1)}, api.Ext{Inf: inf, V: Frac(-1, 2)})
	}
	return append(out, api.Ext{Inf: 2, V: Frac(0, 1)}, api.Ext{Inf: -2, V: Frac(0, 1)})
}

// BadTerms: lists of terms that are not in form: columns that do not rise or are below 0, numbers that are 0 or not in form. All columns are below 3.
func BadTerms() [][]api.Term {
	out := [][]api.Term{
		{Term(1, 1), Term(1, 2)}, {Term(2, 1), Term(1, 1)}, {Term(0, 1), Term(2, 1), Term(1, 1)}, {Term(0, 1), Term(0, -1)},
		{Term(-1, 1)}, {Term(math.MinInt, 1)}, {Term(-1, 1), Term(0, 1)}, {Term(0, 1), Term(-1, 1)},
	}
	for _, a := range append(BadRats(), Frac(0, 1)) {
		bad := func(col int) api.Term { return api.Term{Col: col, A: a} }
		out = append(out, []api.Term{bad(0)}, []api.Term{bad(0), Term(1, 1)}, []api.Term{Term(0, 1), bad(1)}, []api.Term{Term(0, 1), bad(1), Term(2, 1)})
	}
	return out
}

// BadNames: texts that are no names.
func BadNames() []string {
	return []string{"", "A", "1a", "_a", "0", "_", "aB", "a b", " a", "a ", "a-b", "a.", "a\n", "a\x00", "é", "aé", "a\xff", "a`", "a{", "`", "{", "a/", "a:", "a@", "a[", "xxxxxxxxxxxxxxxxx", "abcdefghijklmnopqrstuvwxyz"}
}
