package dominate

import (
	"tableau/api"
	"tableau/ext"
	"tableau/rat"
	"tableau/vec"
)

// fate: what becomes of a column. Where way isn't 0, the value falls without end as the column goes that way; else the column goes and comes back with the status rest; else it stays, and rest is Basic.
func fate(m api.Model, at int) (rest api.Status, way int) {
	col := m.Cols[at]
	if order, _ := ext.Cmp(col.Lo, col.Hi); order > 0 {
		return api.Basic, 0
	}
	likes, _ := rat.Sign(col.Cost)
	if likes >= 0 && lets(m, at, -1) {
		if col.Lo.Inf == 0 {
			return api.Lower, 0
		}
		if likes > 0 {
			return api.Basic, -1
		}
	}
	if likes <= 0 && lets(m, at, 1) {
		if col.Hi.Inf == 0 {
			return api.Upper, 0
		}
		if likes < 0 {
			return api.Basic, 1
		}
	}
	if likes == 0 && !stands(m, at) {
		return api.Free, 0
	}
	return api.Basic, 0
}

// lets: does every row let the column go this way, up (1) or down (-1), as far as it likes?
func lets(m api.Model, at, way int) bool {
	for _, row := range m.Rows {
		moves := way * sign(row, at)
		if moves > 0 && row.Hi.Inf == 0 || moves < 0 && row.Lo.Inf == 0 {
			return false
		}
	}
	return true
}

// stands: has a row a term of the column?
func stands(m api.Model, at int) bool {
	for _, row := range m.Rows {
		if sign(row, at) != 0 {
			return true
		}
	}
	return false
}

// sign: that of the row's coefficient of the column.
func sign(row api.Row, at int) int {
	a, _ := vec.At(row.Terms, at)
	s, _ := rat.Sign(a)
	return s
}
