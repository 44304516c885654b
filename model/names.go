package model

import (
	"slices"

	"tableau/api"
)

// names answers those of the columns, and those of the rows.
func names(m api.Model) (cols, rows []string) {
	for _, c := range m.Cols {
		cols = append(cols, c.Name)
	}
	for _, r := range m.Rows {
		rows = append(rows, r.Name)
	}
	return cols, rows
}

func allNames(texts []string) bool {
	for _, s := range texts {
		if !IsName(s) {
			return false
		}
	}
	return true
}

// IsName: is s a name? It is for the layers above, which read texts.
func IsName(s string) bool {
	if len(s) < 1 || len(s) > api.MaxName || !isLetter(s[0]) {
		return false
	}
	for i := range len(s) {
		if !isLetter(s[i]) && !isDigit(s[i]) && s[i] != '_' {
			return false
		}
	}
	return true
}

func isLetter(b byte) bool { return 'a' <= b && b <= 'z' }

func isDigit(b byte) bool { return '0' <= b && b <= '9' }

// anyTwice: does a name come twice?
func anyTwice(names []string) bool {
	times := make(map[string]int, len(names))
	for _, name := range names {
		times[name]++
		if times[name] > 1 {
			return true
		}
	}
	return false
}

// place answers where the name stands.
func place(names []string, name string) (int, api.Errno) {
	p := slices.Index(names, name)
	if p < 0 {
		return 0, api.ErrNone
	}
	return p, api.OK
}
