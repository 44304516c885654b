package driver

import (
	"strings"

	"tableau/api"
	"tableau/rat"
)

// Headline: the status of an answer, and the value if it has one, as the first line of a report tells them. It is for the shell.
func Headline(a api.Answer) string {
	switch a.Status {
	case api.Optimal:
		return "optimal " + number(a.Value)
	case api.Infeasible:
		return "infeasible"
	case api.Unbounded:
		return "unbounded"
	}
	return ""
}

// written wants an answer of m.
func written(m api.Model, a api.Answer) string {
	var out strings.Builder
	put := func(words ...string) { out.WriteString(strings.Join(words, " ") + "\n") }

	put(Headline(a))
	for place, c := range m.Cols {
		put("col", c.Name, ofCol(a, place))
	}
	if a.Status == api.Unbounded {
		// A ray says nothing of rows.
		return out.String()
	}
	for place, r := range m.Rows {
		put("row", r.Name, ofRow(a, place))
	}
	return out.String()
}

// ofCol answers what a says of that column.
func ofCol(a api.Answer, place int) string {
	switch a.Status {
	case api.Optimal:
		return numbers(a.Point.X[place], a.Point.Z[place]) + " " + statusWord(a.Basis.Cols[place])
	case api.Infeasible:
		return numbers(a.Cert.ColLo[place], a.Cert.ColHi[place])
	}
	return numbers(a.Ray.X[place], a.Ray.D[place])
}

// ofRow answers what a, which is not Unbounded, says of that row.
func ofRow(a api.Answer, place int) string {
	if a.Status == api.Optimal {
		return number(a.Point.Y[place]) + " " + statusWord(a.Basis.Rows[place])
	}
	return numbers(a.Cert.RowLo[place], a.Cert.RowHi[place])
}

func numbers(a, b api.Rat) string { return number(a) + " " + number(b) }

func number(r api.Rat) string {
	s, _ := rat.Text(r)
	return s
}

func statusWord(s api.Status) string {
	words := [...]string{api.Basic: "basic", api.Lower: "lower", api.Upper: "upper", api.Free: "free"}
	return words[s]
}
