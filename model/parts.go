package model

import (
	"slices"

	"tableau/api"
	"tableau/ext"
	"tableau/rat"
)

// copied answers the same model, well formed or not, in new memory.
func copied(m api.Model) api.Model {
	out := api.Model{Offset: rat.Copy(m.Offset)}
	for _, c := range m.Cols {
		out.Cols = append(out.Cols, CopyCol(c))
	}
	for _, r := range m.Rows {
		out.Rows = append(out.Rows, CopyRow(r))
	}
	return out
}

// CopyCol: the same column, in form or not, in new memory. It and CopyRow are for the layers above, which put columns and rows into models that they answer.
func CopyCol(c api.Col) api.Col {
	return api.Col{Name: c.Name, Cost: rat.Copy(c.Cost), Lo: ext.Copy(c.Lo), Hi: ext.Copy(c.Hi)}
}

// CopyRow: the same row, in form or not, in new memory.
func CopyRow(r api.Row) api.Row {
	return api.Row{Name: r.Name, Lo: ext.Copy(r.Lo), Hi: ext.Copy(r.Hi), Terms: copyTerms(r.Terms)}
}

func copyTerms(v []api.Term) []api.Term {
	var out []api.Term
	for _, t := range v {
		out = append(out, api.Term{Col: t.Col, A: rat.Copy(t.A)})
	}
	return out
}

func sameCol(a, b api.Col) bool {
	return a.Name == b.Name && sameRat(a.Cost, b.Cost) && sameExt(a.Lo, b.Lo) && sameExt(a.Hi, b.Hi)
}

func sameRow(a, b api.Row) bool {
	return a.Name == b.Name && sameExt(a.Lo, b.Lo) && sameExt(a.Hi, b.Hi) && slices.EqualFunc(a.Terms, b.Terms, sameTerm)
}

func sameTerm(a, b api.Term) bool { return a.Col == b.Col && sameRat(a.A, b.A) }

func sameExt(a, b api.Ext) bool { return a.Inf == b.Inf && sameRat(a.V, b.V) }

// sameRat wants both in form, which a number has but one.
func sameRat(a, b api.Rat) bool {
	return a.Neg == b.Neg && slices.Equal(a.Num, b.Num) && slices.Equal(a.Den, b.Den)
}
