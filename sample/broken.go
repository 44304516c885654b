package sample

import (
	"math"

	"tableau/api"
)

// A Broken model is not well formed, for the reason that it is named by; E is the error that has to be answered.
type Broken struct {
	Name string
	M    api.Model
	E    api.Errno
}

// A breaker breaks a model; it is handed Three.
type breaker func(m *api.Model)

// Brokens: models with each error of chapter 7, alone and with greater ones beside it.
func Brokens() []Broken {
	var out []Broken
	put := func(e api.Errno, name string, turns ...breaker) {
		m := Three()
		for _, turn := range turns {
			turn(&m)
		}
		out = append(out, Broken{Name: name, M: m, E: e})
	}
	breakLong(put)
	breakForm(put)
	breakNames(put)
	breakPlaces(put)
	return out
}

func breakLong(put func(e api.Errno, name string, turns ...breaker)) {
	put(api.ErrLong, "65 columns", func(m *api.Model) { *m = Full(); m.Cols = append(m.Cols, Col("y", 1, At(0), At(1))) })
	put(api.ErrLong, "65 rows", func(m *api.Model) { *m = Full(); m.Rows = append(m.Rows, Row("y", At(0), At(1))) })
	put(api.ErrLong, "65 columns of nothing", func(m *api.Model) { m.Cols = make([]api.Col, 65) })
	put(api.ErrLong, "65 rows of nothing", func(m *api.Model) { m.Rows = make([]api.Row, 65) })
	put(api.ErrLong, "100 rows and no offset", func(m *api.Model) { *m = api.Model{Rows: make([]api.Row, 100)} })
}

func breakForm(put func(e api.Errno, name string, turns ...breaker)) {
	put(api.ErrForm, "nothing", func(m *api.Model) { *m = api.Model{} })
	for _, r := range BadRats() {
		put(api.ErrForm, "offset", func(m *api.Model) { m.Offset = r })
		put(api.ErrForm, "first cost", func(m *api.Model) { m.Cols[0].Cost = r })
		put(api.ErrForm, "last cost", func(m *api.Model) { m.Cols[2].Cost = r })
	}
	for _, x := range append(BadExts(), High()) {
		put(api.ErrForm, "first column's Lo", func(m *api.Model) { m.Cols[0].Lo = x })
		put(api.ErrForm, "last column's Lo", func(m *api.Model) { m.Cols[2].Lo = x })
		put(api.ErrForm, "first row's Lo", func(m *api.Model) { m.Rows[0].Lo = x })
		put(api.ErrForm, "last row's Lo", func(m *api.Model) { m.Rows[2].Lo = x })
	}
	for _, x := range append(BadExts(), Low()) {
		put(api.ErrForm, "first column's Hi", func(m *api.Model) { m.Cols[0].Hi = x })
		put(api.ErrForm, "last column's Hi", func(m *api.Model) { m.Cols[2].Hi = x })
		put(api.ErrForm, "first row's Hi", func(m *api.Model) { m.Rows[0].Hi = x })
		put(api.ErrForm, "last row's Hi", func(m *api.Model) { m.Rows[2].Hi = x })
	}
	for _, v := range BadTerms() {
		put(api.ErrForm, "first row's terms", func(m *api.Model) { m.Rows[0].Terms = v })
		put(api.ErrForm, "last row's terms", func(m *api.Model) { m.Rows[2].Terms = v })
		put(api.ErrForm, "terms and no name", func(m *api.Model) { m.Rows[1].Terms = v }, badName)
		put(api.ErrForm, "terms and a name twice", func(m *api.Model) { m.Rows[1].Terms = v }, colTwice, rowTwice)
	}
	put(api.ErrForm, "offset and more", func(m *api.Model) { m.Offset = api.Rat{} }, badName, colTwice, beyond)
	put(api.ErrForm, "terms beyond that do not rise", func(m *api.Model) { m.Rows[0].Terms = []api.Term{Term(9, 1), Term(9, 1)} })
}

func breakNames(put func(e api.Errno, name string, turns ...breaker)) {
	for _, s := range BadNames() {
		put(api.ErrName, "first column's name "+s, func(m *api.Model) { m.Cols[0].Name = s })
		put(api.ErrName, "last column's name "+s, func(m *api.Model) { m.Cols[2].Name = s })
		put(api.ErrName, "first row's name "+s, func(m *api.Model) { m.Rows[0].Name = s })
		put(api.ErrName, "last row's name "+s, func(m *api.Model) { m.Rows[2].Name = s })
		put(api.ErrName, "two columns named "+s, func(m *api.Model) { m.Cols[0].Name, m.Cols[1].Name = s, s })
	}
	put(api.ErrName, "no name and more", badName, colTwice, rowTwice, beyond)
	put(api.ErrExists, "two columns of one name", colTwice)
	put(api.ErrExists, "the first two columns of one name", func(m *api.Model) { m.Cols[0].Name = "y" })
	put(api.ErrExists, "all columns of one name", func(m *api.Model) { m.Cols[1].Name, m.Cols[2].Name = "x", "x" })
	put(api.ErrExists, "two rows of one name", rowTwice)
	put(api.ErrExists, "the last two rows of one name", func(m *api.Model) { m.Rows[1].Name = "v" })
	put(api.ErrExists, "two of one name and a term beyond", colTwice, beyond)
	put(api.ErrExists, "the last of 64 columns", func(m *api.Model) { *m = Full(); m.Cols[63].Name = "x0" })
	put(api.ErrExists, "the last of 64 rows", func(m *api.Model) { *m = Full(); m.Rows[63].Name = "r0" })
}

func breakPlaces(put func(e api.Errno, name string, turns ...breaker)) {
	put(api.ErrUnlike, "a term beyond", beyond)
	for _, col := range []int{3, 4, 64, math.MaxInt} {
		put(api.ErrUnlike, "the first row beyond", func(m *api.Model) { m.Rows[0].Terms = []api.Term{Term(0, 1), Term(col, 1)} })
		put(api.ErrUnlike, "the last row beyond", func(m *api.Model) { m.Rows[2].Terms = []api.Term{Term(col, 1)} })
	}
	put(api.ErrUnlike, "terms without columns", func(m *api.Model) { m.Cols = nil })
}

func badName(m *api.Model)  { m.Rows[1].Name = "V" }
func colTwice(m *api.Model) { m.Cols[2].Name = "x" }
func rowTwice(m *api.Model) { m.Rows[2].Name = "y" }
func beyond(m *api.Model)   { m.Rows[1].Terms = []api.Term{Term(3, 1)} }
