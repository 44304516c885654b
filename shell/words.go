package shell

import (
	"slices"
	"strconv"
	"strings"

	"tableau/api"
	"tableau/ext"
	"tableau/model"
	"tableau/presolve"
	"tableau/rat"
)

// A word of a line, and the place of its first byte.
type word struct {
	text string
	at   int
}

const blank = " "

func split(line string) []word {
	var out []word
	at := 0
	for _, piece := range strings.Split(line, blank) {
		if piece != "" {
			out = append(out, word{text: piece, at: at})
		}
		at += len(piece) + len(blank)
	}
	return out
}

// A kind is what a word must be.
type kind int

const (
	aNumber kind = iota
	aBound
	aNewName
	aColumn // the name of one that is there
	aRow    // likewise
	aPass
	aCount
)

// A known word must be the name of a column, or of a row.
type known struct {
	kind kind
	word word
}

// Given is what the words behind a command stand for, each kind in the order of the line.
type given struct {
	numbers []api.Rat
	bounds  []api.Ext
	names   []string
	known   []known
	cols    []int // the places of those of known that name columns
	rows    []int
	passes  []int
	count   int
}

// take puts a word to the others; false, if it is not of that kind. Whether there is a column, or a row, of that name is not asked.
func (g *given) take(k kind, w word) bool {
	switch k {
	case aNumber:
		r, e := rat.Read(w.text)
		g.numbers = append(g.numbers, r)
		return e == api.OK
	case aBound:
		x, e := ext.Read(w.text)
		g.bounds = append(g.bounds, x)
		return e == api.OK
	case aNewName:
		// A copy: a piece of the line would keep all of it.
		g.names = append(g.names, strings.Clone(w.text))
		return model.IsName(w.text)
	case aColumn, aRow:
		g.known = append(g.known, known{kind: k, word: w})
		return model.IsName(w.text)
	case aPass:
		place := slices.Index(presolve.Names(), w.text)
		g.passes = append(g.passes, place+1)
		return place >= 0
	case aCount:
		g.count, _ = strconv.Atoi(w.text)
		return isCount(w.text)
	}
	return false
}

// mostDigits: of a count.
const mostDigits = 4

func isCount(s string) bool {
	for i := range len(s) {
		if s[i] < '0' || s[i] > '9' {
			return false
		}
	}
	return len(s) <= mostDigits
}

// find puts in the places of the columns and rows that are named; or it answers the place of the first name that stands for none, or for a column that was named already.
func (g *given) find(m api.Model) (int, api.Errno) {
	for _, k := range g.known {
		place := k.in(m)
		switch {
		case place < 0:
			return k.word.at, api.ErrName
		case k.kind == aRow:
			g.rows = append(g.rows, place)
		case slices.Contains(g.cols, place):
			return k.word.at, api.ErrExists
		default:
			g.cols = append(g.cols, place)
		}
	}
	return 0, api.OK
}

// in answers the place in m; one below 0, if there is none. (model.Col and model.Row ask the whole model at each name.)
func (k known) in(m api.Model) int {
	if k.kind == aRow {
		return slices.IndexFunc(m.Rows, func(r api.Row) bool { return r.Name == k.word.text })
	}
	return slices.IndexFunc(m.Cols, func(c api.Col) bool { return c.Name == k.word.text })
}
