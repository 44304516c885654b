package edit_test

import (
	"tableau/api"
	"tableau/edit"
	"tableau/guard"
	"tableau/sample"
)

// An input is what a call may be handed beside the model; a call takes of it what it needs.
type input struct {
	col, row int
	number   api.Rat
	lo, hi   api.Ext
	newCol   api.Col
	newRow   api.Row
}

// good: an input with which each call has an answer for Three.
func good() input {
	return input{
		col: 2, row: 0, number: sample.Frac(-2, 3), lo: sample.At(-1), hi: sample.High(),
		newCol: sample.Col("w", 1, sample.Low(), sample.At(3)),
		newRow: sample.Row("w", sample.At(1), sample.At(2), sample.Term(0, 1), sample.Term(2, -5)),
	}
}

func guarded(in input) input {
	in.number, in.lo, in.hi = guard.Rat(in.number), guard.Ext(in.lo), guard.Ext(in.hi)
	in.newCol, in.newRow = guard.Col(in.newCol), guard.Row(in.newRow)
	return in
}

// A caller makes one call.
type caller struct {
	name       string
	cols, rows bool    // it takes a column's place, a row's
	bads       []input // good, but for one number, bound or list of terms, which it takes, that is not in form
	call       func(m api.Model, in input) (api.Model, api.Errno)
}

func callers() []caller {
	var number, bound, col, row []input
	put := func(list *[]input, turn func(in *input)) {
		in := good()
		turn(&in)
		*list = append(*list, in)
	}
	for _, r := range sample.BadRats() {
		put(&number, func(in *input) { in.number = r })
		put(&col, func(in *input) { in.newCol.Cost = r })
	}
	for _, x := range sample.BadExts() {
		put(&bound, func(in *input) { in.lo = x })
		put(&bound, func(in *input) { in.hi = x })
		put(&col, func(in *input) { in.newCol.Lo = x })
		put(&col, func(in *input) { in.newCol.Hi = x })
		put(&row, func(in *input) { in.newRow.Lo = x })
		put(&row, func(in *input) { in.newRow.Hi = x })
	}
	for _, v := range sample.BadTerms() {
		put(&row, func(in *input) { in.newRow.Terms = v })
	}
	return []caller{
		{"AddCol", false, false, col, func(m api.Model, in input) (api.Model, api.Errno) { return edit.AddCol(m, in.newCol) }},
		{"AddRow", false, false, row, func(m api.Model, in input) (api.Model, api.Errno) { return edit.AddRow(m, in.newRow) }},
		{"DropCol", true, false, nil, func(m api.Model, in input) (api.Model, api.Errno) { return edit.DropCol(m, in.col) }},
		{"DropRow", false, true, nil, func(m api.Model, in input) (api.Model, api.Errno) { return edit.DropRow(m, in.row) }},
		{"SetCost", true, false, number, func(m api.Model, in input) (api.Model, api.Errno) { return edit.SetCost(m, in.col, in.number) }},
		{"SetCol", true, false, bound, func(m api.Model, in input) (api.Model, api.Errno) { return edit.SetCol(m, in.col, in.lo, in.hi) }},
		{"SetRow", false, true, bound, func(m api.Model, in input) (api.Model, api.Errno) { return edit.SetRow(m, in.row, in.lo, in.hi) }},
		{"SetTerm", true, true, number, func(m api.Model, in input) (api.Model, api.Errno) { return edit.SetTerm(m, in.row, in.col, in.number) }},
		{"ScaleRow", false, true, number, func(m api.Model, in input) (api.Model, api.Errno) { return edit.ScaleRow(m, in.row, in.number) }},
		{"Mirror", true, false, nil, func(m api.Model, in input) (api.Model, api.Errno) { return edit.Mirror(m, in.col) }},
		{"Substitute", true, false, number, func(m api.Model, in input) (api.Model, api.Errno) { return edit.Substitute(m, in.col, in.number) }},
	}
}
