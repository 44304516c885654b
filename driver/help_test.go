package driver_test

import (
	"encoding/binary"
	"fmt"
	"math/big"
	"slices"
	"strings"
	"testing"

	"tableau/api"
	"tableau/driver"
	"tableau/sample"
	"tableau/simplex"
	"tableau/text"
	"tableau/trial"
)

// lines: the text whose lines are cut by /; a fraction's / stands between digits.
func lines(s string) string { return strings.ReplaceAll(s, " / ", "\n") + "\n" }

// read: the model of such a text, in which end is left out.
func read(t *testing.T, s string) api.Model {
	t.Helper()
	m, at, e := text.Parse(lines(s + " / end"))
	if e != api.OK {
		t.Fatalf("%.200q is no model: %d at %d", s, e, at)
	}
	return m
}

// printed: the text of a model.
func printed(t *testing.T, m api.Model) string {
	t.Helper()
	s, e := text.Print(m)
	if e != api.OK {
		t.Fatalf("text.Print(%v): %d", m, e)
	}
	return s
}

// nums: whole numbers.
func nums(l ...int) []api.Rat {
	var x []api.Rat
	for _, n := range l {
		x = append(x, sample.Frac(n, 1))
	}
	return x
}

func sameRat(a, b api.Rat) bool {
	return a.Neg == b.Neg && slices.Equal(a.Num, b.Num) && slices.Equal(a.Den, b.Den)
}

// isNothing: is it what stands beside an error?
func isNothing(a api.Answer) bool { return trial.SameAnswer(a, api.Answer{}) }

// everyPass: a script of all of them.
func everyPass() []int { return []int{1, 2, 3, 4, 5, 6, 7} }

// answered: an answer of m by the script, of which Judge says true.
func answered(t *testing.T, m api.Model, script []int) api.Answer {
	t.Helper()
	a, e := driver.Solve(m, script)
	if is, f := simplex.Judge(m, a); e != api.OK || f != api.OK || !is {
		t.Fatalf("P28.1, P4: Solve(%v, %v) = %v, %d: no answer", m, script, a, e)
	}
	return a
}

// checkAnswer: an answer with that status and that value, from the model's text, too.
func checkAnswer(t *testing.T, m api.Model, script []int, status int, value api.Rat) {
	t.Helper()
	a := answered(t, m, script)
	if a.Status != status || status == api.Optimal && !sameRat(a.Value, value) {
		t.Fatalf("P3, P5: Solve(%v, %v) = %v, want the status %d and the value %v", m, script, a, status, value)
	}
	if b, at, e := driver.Text(printed(t, m), script); e != api.OK || at != 0 || !trial.SameAnswer(a, b) {
		t.Fatalf("P28.1: Text of %v, %v = %v, %d at %d, where Solve has %v", m, script, b, e, at, a)
	}
}

// digits: the number's text, by the library's own reckoning.
func digits(r api.Rat) string {
	whole := func(limbs []uint64) *big.Int {
		var bytes []byte
		for _, w := range slices.Backward(limbs) {
			bytes = binary.BigEndian.AppendUint64(bytes, w)
		}
		return new(big.Int).SetBytes(bytes)
	}
	n := new(big.Rat).SetFrac(whole(r.Num), whole(r.Den))
	if r.Neg {
		n.Neg(n)
	}
	return n.RatString()
}

// reported: the report, written line by line as the chapter says.
func reported(m api.Model, a api.Answer) string {
	words := map[api.Status]string{api.Basic: "basic", api.Lower: "lower", api.Upper: "upper", api.Free: "free"}
	out := ""
	switch a.Status {
	case api.Optimal:
		out = fmt.Sprintln("optimal", digits(a.Value))
		for j, c := range m.Cols {
			out += fmt.Sprintln("col", c.Name, digits(a.Point.X[j]), digits(a.Point.Z[j]), words[a.Basis.Cols[j]])
		}
		for i, r := range m.Rows {
			out += fmt.Sprintln("row", r.Name, digits(a.Point.Y[i]), words[a.Basis.Rows[i]])
		}
	case api.Infeasible:
		out = fmt.Sprintln("infeasible")
		for j, c := range m.Cols {
			out += fmt.Sprintln("col", c.Name, digits(a.Cert.ColLo[j]), digits(a.Cert.ColHi[j]))
		}
		for i, r := range m.Rows {
			out += fmt.Sprintln("row", r.Name, digits(a.Cert.RowLo[i]), digits(a.Cert.RowHi[i]))
		}
	case api.Unbounded:
		out = fmt.Sprintln("unbounded")
		for j, c := range m.Cols {
			out += fmt.Sprintln("col", c.Name, digits(a.Ray.X[j]), digits(a.Ray.D[j]))
		}
	}
	return out
}

// checkReport: the report of an answer.
func checkReport(t *testing.T, m api.Model, a api.Answer) {
	t.Helper()
	if s, e := driver.Report(m, a); e != api.OK || s != reported(m, a) {
		t.Fatalf("P28.2: Report(%v, %v) = %q, %d, want %q", m, a, s, e, reported(m, a))
	}
}

// A count is how often each thing was tried.
type count map[string]int

func (c count) check(t *testing.T, least int, names ...string) {
	t.Helper()
	for _, name := range names {
		if c[name] < least {
			t.Errorf("only %d of %s were tried", c[name], name)
		}
	}
}
