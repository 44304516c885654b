package text_test

import (
	"math/big"
	"regexp"
	"slices"
	"strings"
	"testing"

	"tableau/api"
)

const (
	numberForm = `(?:0|-?[1-9][0-9]*(?:/[1-9][0-9]*)?)`
	nameForm   = `[a-z][a-z0-9_]{0,15}`
	loForm     = `(-inf|` + numberForm + `)`
	hiForm     = `(inf|` + numberForm + `)`
)

// A plainReader judges texts by patterns, and its numbers by the library's own fractions.
type plainReader struct {
	min, col, row, term *regexp.Regexp
	cols, rows          []string
}

func newPlainReader() *plainReader {
	return &plainReader{
		min:  regexp.MustCompile(`\Amin (` + numberForm + `)\n\z`),
		col:  regexp.MustCompile(`\Acol (` + nameForm + `) (` + numberForm + `) ` + loForm + ` ` + hiForm + `\n\z`),
		row:  regexp.MustCompile(`\Arow (` + nameForm + `) ` + loForm + ` ` + hiForm + `((?: ` + numberForm + ` ` + nameForm + `)*)\n\z`),
		term: regexp.MustCompile(` (` + numberForm + `) (` + nameForm + `)`),
	}
}

// judge: the place of the first line that is at fault, and what is.
func (p *plainReader) judge(s string) (int, api.Errno) {
	p.cols, p.rows = nil, nil
	at, state := 0, "min"
	for _, line := range strings.SplitAfter(s, "\n") {
		switch {
		case line == "" && state == "behind":
			return 0, api.OK
		case state == "behind":
			return at, api.ErrText
		case line == "end\n" && state != "min":
			state = "behind"
		default:
			kind, e := p.line(line)
			follows := kind == "min" && state == "min" || kind == "col" && state == "col" || kind == "row" && (state == "col" || state == "row")
			if !follows {
				return at, api.ErrText
			}
			if e != api.OK {
				return at, e
			}
			if state = kind; kind == "min" {
				state = "col"
			}
		}
		at += len(line)
	}
	return at, api.ErrText
}

// line: its kind, if it is of the form of any; and what else is wrong with it.
func (p *plainReader) line(line string) (string, api.Errno) {
	if f := p.min.FindStringSubmatch(line); f != nil && lowest(f[1]) {
		return "min", api.OK
	}
	if f := p.col.FindStringSubmatch(line); f != nil && lowest(f[2]) && lowest(f[3]) && lowest(f[4]) {
		e := api.OK
		if slices.Contains(p.cols, f[1]) {
			e = api.ErrExists
		}
		if len(p.cols) == api.MaxCols {
			e = api.ErrLong
		}
		p.cols = append(p.cols, f[1])
		return "col", e
	}
	if f := p.row.FindStringSubmatch(line); f != nil && lowest(f[2]) && lowest(f[3]) {
		return p.rowLine(f[1], p.term.FindAllStringSubmatch(f[4], -1))
	}
	return "", api.ErrText
}

func (p *plainReader) rowLine(name string, terms [][]string) (string, api.Errno) {
	var faults []api.Errno
	var places []int
	for _, t := range terms {
		if !lowest(t[1]) || t[1] == "0" {
			return "", api.ErrText
		}
		place := slices.Index(p.cols, t[2])
		if place < 0 {
			faults = append(faults, api.ErrName)
		}
		places = append(places, place)
	}
	if !slices.IsSorted(places) || len(slices.Compact(slices.Clone(places))) < len(places) {
		faults = append(faults, api.ErrText)
	}
	if slices.Contains(p.rows, name) {
		faults = append(faults, api.ErrExists)
	}
	if len(p.rows) == api.MaxRows {
		faults = append(faults, api.ErrLong)
	}
	p.rows = append(p.rows, name)
	if len(faults) > 0 {
		return "row", slices.Min(faults)
	}
	return "row", api.OK
}

// lowest wants what is of a number's or a bound's form.
func lowest(s string) bool {
	if !strings.Contains(s, "/") {
		return true
	}
	n, ok := new(big.Rat).SetString(s)
	return ok && n.RatString() == s
}

// check holds Parse against the judgement. How often what was found is counted.
func (p *plainReader) check(t *testing.T, s string, found map[api.Errno]int) {
	t.Helper()
	at, e := p.judge(s)
	found[e]++
	if e == api.OK {
		checkTaken(t, s)
	} else {
		checkFault(t, s, at, e)
	}
}
