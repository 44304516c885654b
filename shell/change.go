package shell

import (
	"cmp"
	"slices"
	"strconv"

	"tableau/api"
	"tableau/edit"
)

// The commands that change the model. Each is handed as many numbers, bounds, names and places as the table of commands says.

// become takes over what has come of the model, unless there is an error; an answer of the earlier one is kept no more.
func (s *Shell) become(m api.Model, e api.Errno) api.Errno {
	if e == api.OK {
		s.m, s.answer = m, api.Answer{}
	}
	return e
}

func (s *Shell) setOffset(g given) (string, api.Errno) {
	m := s.m
	m.Offset = g.numbers[0]
	return "", s.become(m, api.OK)
}

func (s *Shell) addCol(g given) (string, api.Errno) {
	c := api.Col{Name: g.names[0], Cost: g.numbers[0], Lo: g.bounds[0], Hi: g.bounds[1]}
	e := s.become(edit.AddCol(s.m, c))
	return s.colCount(), e
}

func (s *Shell) addRow(g given) (string, api.Errno) {
	r := api.Row{Name: g.names[0], Lo: g.bounds[0], Hi: g.bounds[1]}
	for i, col := range g.cols {
		r.Terms = append(r.Terms, api.Term{Col: col, A: g.numbers[i]})
	}
	slices.SortFunc(r.Terms, func(a, b api.Term) int { return cmp.Compare(a.Col, b.Col) })
	e := s.become(edit.AddRow(s.m, r))
	return s.rowCount(), e
}

func (s *Shell) setCost(g given) (string, api.Errno) {
	return "", s.become(edit.SetCost(s.m, g.cols[0], g.numbers[0]))
}

func (s *Shell) setCol(g given) (string, api.Errno) {
	return "", s.become(edit.SetCol(s.m, g.cols[0], g.bounds[0], g.bounds[1]))
}

func (s *Shell) setRow(g given) (string, api.Errno) {
	return "", s.become(edit.SetRow(s.m, g.rows[0], g.bounds[0], g.bounds[1]))
}

func (s *Shell) setTerm(g given) (string, api.Errno) {
	return "", s.become(edit.SetTerm(s.m, g.rows[0], g.cols[0], g.numbers[0]))
}

func (s *Shell) dropCol(g given) (string, api.Errno) {
	e := s.become(edit.DropCol(s.m, g.cols[0]))
	return s.colCount(), e
}

func (s *Shell) dropRow(g given) (string, api.Errno) {
	e := s.become(edit.DropRow(s.m, g.rows[0]))
	return s.rowCount(), e
}

func (s *Shell) clear(given) (string, api.Errno) {
	s.begin()
	return "", api.OK
}

func (s *Shell) colCount() string { return strconv.Itoa(len(s.m.Cols)) }

func (s *Shell) rowCount() string { return strconv.Itoa(len(s.m.Rows)) }
