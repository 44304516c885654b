package model

import (
	"tableau/api"
	"tableau/ext"
	"tableau/rat"
	"tableau/vec"
)

// inForm: are all numbers, bounds and lists of terms of m in form?
func inForm(m api.Model) bool {
	if !rat.Form(m.Offset) {
		return false
	}
	for _, c := range m.Cols {
		if !rat.Form(c.Cost) || !areBounds(c.Lo, c.Hi) {
			return false
		}
	}
	for _, r := range m.Rows {
		if !areBounds(r.Lo, r.Hi) || !vec.Form(r.Terms) {
			return false
		}
	}
	return true
}

// areBounds: may the two stand as Lo and Hi?
func areBounds(lo, hi api.Ext) bool {
	return ext.Form(lo) && ext.Form(hi) && lo.Inf != 1 && hi.Inf != -1
}

// allBelow wants the terms in form: the last column of each row is its highest.
func allBelow(m api.Model) bool {
	for _, r := range m.Rows {
		if n := len(r.Terms); n > 0 && r.Terms[n-1].Col >= len(m.Cols) {
			return false
		}
	}
	return true
}
