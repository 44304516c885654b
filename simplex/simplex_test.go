package simplex_test

import (
	"math/big"
	"testing"

	"tableau/api"
	"tableau/sample"
	"tableau/simplex"
)

// A wanted answer: its status, and if that is Optimal, its value.
type wanted struct {
	status int
	value  string
}

func least(value string) wanted { return wanted{api.Optimal, value} }

func noPoint() wanted { return wanted{status: api.Infeasible} }

func noLeast() wanted { return wanted{status: api.Unbounded} }

// checkAnswer: does a show by the definitions what is wanted, and does Judge say so?
func checkAnswer(t *testing.T, name string, m api.Model, a api.Answer, e api.Errno, want wanted) {
	t.Helper()
	if e != api.OK || a.Status != want.status || !isAnswer(m, a) || a.Status == api.Optimal && !sameRat(a.Value, number(want.value)) {
		t.Errorf("P16.2: %s: %v, %d, want %v: %v", name, a, e, want, m)
	}
	if is, e := simplex.Judge(m, a); !is || e != api.OK {
		t.Errorf("P16.1: %s: Judge of its answer %v: %v, %d: %v", name, a, is, e, m)
	}
}

// checkSolve: Solve, and From with some hints.
func checkSolve(t *testing.T, name string, m api.Model, want wanted) api.Answer {
	t.Helper()
	a, e := simplex.Solve(m)
	checkAnswer(t, name, m, a, e, want)
	for _, b := range []api.Basis{a.Basis, slackOf(m), {}} {
		a, e := simplex.From(m, b)
		checkAnswer(t, name+": From", m, a, e, want)
	}
	return a
}

// TestExamples: those of the chapter, and those of the whole that it names.
func TestExamples(t *testing.T) {
	a := checkSolve(t, "1", read(t, "min 0 / col x 1 1 inf"), least("1"))
	if len(a.Point.X) != 1 || !sameRat(a.Point.X[0], number("1")) || !sameRat(a.Point.Z[0], number("1")) || a.Basis.Cols[0] != api.Lower {
		t.Errorf("P16.2: example 1: %v", a)
	}
	a = checkSolve(t, "2", read(t, "min 0 / col x 1 -inf inf"), noLeast())
	if len(a.Ray.D) != 1 || !a.Ray.D[0].Neg {
		t.Errorf("P16.2: example 2: %v", a)
	}
	checkSolve(t, "3", read(t, "min 0 / col x 0 2 1"), noPoint())
	a = checkSolve(t, "4", read(t, "min 3 / col x -1 0 4 / col y -1 0 4 / row r -inf 6 1 x 2 y"), least("-2"))
	for i, r := range []string{"4", "1", "-1/2", "-1/2", "0"} {
		p := a.Point
		if all := append(append(p.X, p.Y...), p.Z...); len(all) != 5 || !sameRat(all[i], number(r)) {
			t.Errorf("P16.2: example 4: %v", a)
		}
	}
	checkSolve(t, "no columns and no rows", api.Model{Offset: sample.Frac(-7, 2)}, least("-7/2"))
	a = checkSolve(t, "a row without terms", read(t, "min 0 / row r 1 inf"), noPoint())
	if len(a.Cert.RowLo) != 1 || len(a.Cert.RowLo[0].Num) == 0 {
		t.Errorf("P16.2: a row without terms: %v", a)
	}
	checkSolve(t, "a row without terms, crossed", read(t, "min 0 / row r 1 0"), noPoint())
}

// A program is the text of a model with what is to be answered of it.
type program struct {
	text string
	want wanted
}

func checkPrograms(t *testing.T, list ...program) {
	t.Helper()
	for _, p := range list {
		checkSolve(t, p.text, read(t, p.text), p.want)
	}
}

// TestWithoutRows: columns bounded below, above, on both sides and not at all, with costs of either sign and 0.
func TestWithoutRows(t *testing.T) {
	checkPrograms(t,
		program{"min 5/3", least("5/3")},
		program{"min 1 / col x 2 3 inf", least("7")}, program{"min 1 / col x 0 3 inf", least("1")}, program{"min 1 / col x -2 3 inf", noLeast()},
		program{"min 1 / col x 2 -inf 3", noLeast()}, program{"min 1 / col x 0 -inf 3", least("1")}, program{"min 1 / col x -2 -inf 3", least("-5")},
		program{"min 1 / col x 2 -1/2 3", least("0")}, program{"min 1 / col x 0 -1/2 3", least("1")}, program{"min 1 / col x -2 -1/2 3", least("-5")},
		program{"min 1 / col x 2 -inf inf", noLeast()}, program{"min 1 / col x 0 -inf inf", least("1")}, program{"min 1 / col x -2 -inf inf", noLeast()},
		program{"min 1 / col x 2 3 3", least("7")}, program{"min 1 / col x -2 3 3", least("-5")}, program{"min 1 / col x 2 3 2", noPoint()},
		program{"min 0 / col x 1 0 inf / col y -1 -inf 7 / col z 0 -inf inf / col w 3 -2 -1", least("-13")},
		program{"min 0 / col x 1 0 inf / col y -1 -inf 7 / col z 1 -inf inf / col w 3 -2 -1", noLeast()},
		program{"min 0 / col x 1 -inf inf / col y 0 4 3", noPoint()},
	)
}

// TestWithoutColumns: rows without terms, whose bounds hold 0 and don't.
func TestWithoutColumns(t *testing.T) {
	checkPrograms(t,
		program{"min -1 / row r -1 2", least("-1")}, program{"min -1 / row r 0 0", least("-1")}, program{"min -1 / row r 0 inf", least("-1")}, program{"min -1 / row r -inf 0", least("-1")}, program{"min -1 / row r -inf inf", least("-1")},
		program{"min -1 / row r 1/9 inf", noPoint()}, program{"min -1 / row r -inf -1/9", noPoint()}, program{"min -1 / row r 1 2", noPoint()}, program{"min -1 / row r -2 -1", noPoint()}, program{"min -1 / row r 3 3", noPoint()}, program{"min -1 / row r 2 -2", noPoint()},
		program{"min -1 / row r -1 1 / row s 0 5 / row u -inf inf", least("-1")}, program{"min -1 / row r -1 1 / row s 1 5 / row u -inf -2", noPoint()}, program{"min -1 / row r 1 5 / row s -5 -1", noPoint()},
		program{"min 0 / col x 1 2 9 / row r -1 1 / row s -inf 0", least("2")}, program{"min 0 / col x 1 -inf inf / row r 0 1", noLeast()}, program{"min 0 / col x 1 -inf inf / row r -2 -1", noPoint()}, program{"min 0 / col x -1 2 9 / row r 0 1 / row s 1 inf", noPoint()},
	)
}

// TestRows: rows with two bounds, with one on either side, with none, and equations.
func TestRows(t *testing.T) {
	checkPrograms(t,
		program{"min 0 / col x 1 -inf inf / row r 2 5 3 x", least("2/3")}, program{"min 0 / col x -1 -inf inf / row r 2 5 3 x", least("-5/3")}, program{"min 0 / col x 1 -inf inf / row r 2 5 -3 x", least("-5/3")}, program{"min 0 / col x -1 -inf inf / row r 2 5 -3 x", least("2/3")},
		program{"min 0 / col x 1 -inf inf / row r 2 inf 3 x", least("2/3")}, program{"min 0 / col x -1 -inf inf / row r 2 inf 3 x", noLeast()}, program{"min 0 / col x 1 -inf inf / row r -inf 2 3 x", noLeast()}, program{"min 0 / col x -1 -inf inf / row r -inf 2 3 x", least("-2/3")},
		program{"min 0 / col x 1 -inf inf / row r -inf inf 3 x", noLeast()}, program{"min 0 / col x 1 1 inf / row r -inf inf 3 x", least("1")}, program{"min 0 / col x -1 0 9 / row r -inf inf 3 x", least("-9")},
		program{"min 0 / col x 1 -inf inf / row r 2 2 3 x", least("2/3")}, program{"min 0 / col x 1 1 inf / row r 2 2 3 x", noPoint()}, program{"min 0 / col x 1 -inf 1/2 / row r 2 2 3 x", noPoint()}, program{"min 0 / col x 1 2/3 2/3 / row r 2 2 3 x", least("2/3")},
		program{"min 0 / col x 1 -inf inf / col y 1 -inf inf / row r 1 1 1 x 1 y", least("1")}, program{"min 0 / col x 1 -inf inf / col y 2 -inf inf / row r 1 1 1 x 1 y", noLeast()},
		program{"min 0 / col x 1 0 inf / col y 2 0 inf / row r 1 1 1 x 1 y", least("1")}, program{"min 0 / col x 2 0 1/4 / col y 3 0 inf / row r 1 1 1 x 1 y", least("11/4")},
		program{"min 0 / col x 1 -inf inf / col y 1 -inf inf / row r 3 3 1 x 1 y / row s 1 1 1 x -1 y / row u 4 4 2 x", least("3")}, program{"min 0 / col x 1 -inf inf / col y 1 -inf inf / row r 3 3 1 x 1 y / row s 1 1 1 x -1 y / row u 5 5 2 x", noPoint()},
		program{"min 0 / col x 3 -inf inf / col y 5 -inf inf / row r 2 inf 1 x / row s 3 inf 1 y / row u -inf 9 1 x 1 y", least("21")},
		program{"min 0 / col x -3 -inf inf / col y -5 -inf inf / row r 2 inf 1 x / row s 3 inf 1 y / row u -inf 9 1 x 1 y", least("-41")},
	)
}

// TestCrossed: crossed bounds of a column and of a row, whatever stands beside them; and touching ones.
func TestCrossed(t *testing.T) {
	checkPrograms(t,
		program{"min 0 / col x 1 2 1", noPoint()}, program{"min 0 / col x 1 0 inf / row r 2 1 1 x", noPoint()}, program{"min 0 / col x 1 2 1 / row r 2 1 1 x", noPoint()}, program{"min 0 / col y 1 -inf inf / col x 0 1/2 1/3", noPoint()},
		program{"min 0 / col x -1 0 inf / col y 0 0 1 / row r -inf inf 1 x / row s 1 0", noPoint()}, program{"min 0 / col x 1 0 1 / col y 1 5 4 / row r 9 inf 1 x", noPoint()},
		program{"min 0 / col x 1 2 2", least("2")}, program{"min 0 / col x 1 0 inf / row r 2 2 1 x", least("2")}, program{"min 0 / col x 1 2 2 / row r 2 2 1 x", least("2")}, program{"min 0 / col x 1 2 2 / row r 3 3 1 x", noPoint()},
		program{"min 0 / col x 1 0 2 / row r 2 inf 1 x", least("2")}, program{"min 0 / col x 1 -inf inf / row r 2 inf 1 x / row s -inf 2 1 x", least("2")}, program{"min 0 / col x 1 -inf inf / row r 2 inf 1 x / row s -inf 19/10 1 x", noPoint()},
	)
}

// TestCosts: costs all 0; one optimal point, and many.
func TestCosts(t *testing.T) {
	checkPrograms(t,
		program{"min 4/3 / col x 0 0 4 / col y 0 -inf inf / row r -inf 6 1 x 2 y", least("4/3")}, program{"min 4/3 / col x 0 0 4 / col y 0 0 4 / row r 7 inf 1 x 1 y", least("4/3")}, program{"min 4/3 / col x 0 0 4 / col y 0 0 4 / row r 9 inf 1 x 1 y", noPoint()},
		program{"min 0 / col x 1 0 inf / col y 1 0 inf / row r 2 inf 1 x 2 y", least("1")}, program{"min 0 / col x 1 0 inf / col y 1 0 inf / row r 2 inf 1 x 1 y", least("2")}, program{"min 0 / col x 1 -inf inf / col y 1 -inf inf / row r 2 inf 1 x 1 y", least("2")},
		program{"min 0 / col x -1 0 1 / col y -1 0 1 / col z -1 0 1 / row r -inf 2 1 x 1 y 1 z", least("-2")}, program{"min 0 / col x 0 0 inf / col y -1 0 3", least("-3")},
	)
}

// TestTies: points at which more bounds are met than there are columns.
func TestTies(t *testing.T) {
	checkPrograms(t,
		program{"min 0 / col x -1 0 1 / row r -inf 1 1 x / row s -inf 2 2 x / row u 0 inf 1 x", least("-1")},
		program{"min 0 / col x -1 0 inf / col y -1 0 inf / row r -inf 1 1 x / row s -inf 1 1 y / row u -inf 2 1 x 1 y / row v -inf 3 2 x 1 y / row w -inf 0 1 x -1 y", least("-2")},
		program{"min 0 / col x 1 0 inf / col y 1 0 inf / row r 0 inf 1 x 1 y / row s 0 inf 1 x -1 y / row u 0 inf -1 x 1 y / row v 0 inf 2 x 3 y", least("0")},
		program{"min 0 / col x -1 0 inf / col y 0 0 inf / row r 0 0 1 x 1 y / row s 0 0 1 x -1 y / row u 0 0 2 x", least("0")},
		program{"min 0 / col x -2 0 0 / col y -1 0 0 / row r 0 0 1 x 1 y", least("0")},
	)
}

// TestRound: programs on which a search goes round without end, unless it has a rule for ties: well-known ones (Beale's, Marshall's and Suurballe's, Kuhn's, Hoffman's kind), and some that take the search of this package round if its rule is left out.
func TestRound(t *testing.T) {
	checkPrograms(t,
		program{"min 0 / col x -3/4 0 inf / col y 150 0 inf / col z -1/50 0 inf / col w 6 0 inf / row a -inf 0 1/4 x -60 y -1/25 z 9 w / row b -inf 0 1/2 x -90 y -1/50 z 3 w / row c -inf 1 1 z", least("-1/20")},
		program{"min 0 / col x -3/4 0 inf / col y 20 0 inf / col z -1/2 0 inf / col w 6 0 inf / row a -inf 0 1/4 x -8 y -1 z 9 w / row b -inf 0 1/2 x -12 y -1/2 z 3 w / row c -inf 1 1 z", least("-5/4")},
		program{"min 0 / col x -10 0 inf / col y 57 0 inf / col z 9 0 inf / col w 24 0 inf / row a -inf 0 1/2 x -11/2 y -5/2 z 9 w / row b -inf 0 1/2 x -3/2 y -1/2 z 1 w / row c -inf 1 1 x", least("-1")},
		program{"min 0 / col x -2 0 inf / col y -3 0 inf / col z 1 0 inf / col w 12 0 inf / row a -inf 0 -2 x -9 y 1 z 9 w / row b -inf 0 1/3 x 1 y -1/3 z -2 w / row c -inf 2 2 x 3 y -1 z -12 w", least("-2")},
		program{"min 0 / col x -2 0 inf / col y -3 0 inf / col z 1 0 inf / col w 12 0 inf / row a -inf 0 -2 x -9 y 1 z 9 w / row b -inf 0 1/3 x 1 y -1/3 z -2 w", noLeast()},
		program{"min 0 / col x -1 0 inf / col y -7/4 0 inf / col z 49/4 0 inf / col w 1/2 0 inf / row a 0 0 1/3 x -32/9 y -20/9 z 1/9 w / row b 0 0 1/6 x -13/9 y -5/18 z 1/36 w / row c -inf 1 1 x", least("-29/80")},
		program{"min 0 / col x0 1 0 inf / col x1 -1 0 inf / col x2 -1 0 inf / col x3 2 0 inf / col x4 1 0 inf / row a -inf 0 -2 x0 -1 x1 2 x2 -1 x3 -3 x4 / row b -inf 0 2 x2 -2 x3 3 x4 / row c -inf 0 -1 x0 2 x1 1 x2 2 x3 -2 x4 / row d -inf 1 1 x0 1 x1 1 x2 1 x3 1 x4", least("0")},
		program{"min 0 / col x0 1 0 inf / col x1 -3 0 inf / col x2 2 0 inf / col x3 1 0 inf / col x4 -3 0 inf / col x5 1 0 inf / row a -inf 0 -1 x1 -1 x3 3 x5 / row b -inf 0 -1 x0 3 x1 -2 x2 2 x3 1 x4 -2 x5 / row c -inf 0 -1 x0 -2 x1 -3 x3 3 x4 3 x5 / row d -inf 0 3 x0 -3 x2 -1 x3 1 x4 1 x5 / row e -inf 1 1 x0 1 x1 1 x2 1 x3 1 x4 1 x5", least("-9/20")},
		program{"min 0 / col x0 -3 0 inf / col x1 -1 0 inf / col x2 1 0 inf / col x3 1 0 inf / col x4 2 0 inf / col x5 2 0 inf / col x6 1 0 inf / row a -inf 0 3 x0 -2 x1 -2 x2 -3 x3 -2 x4 1 x5 3 x6 / row b -inf 0 3 x0 3 x1 -3 x3 3 x4 -3 x5 -2 x6 / row c 0 0 3 x1 -3 x2 2 x3 1 x6 / row d -inf 0 3 x0 -1 x2 2 x3 -2 x5 -2 x6 / row e -inf 1 1 x0 1 x1 1 x2 1 x3 1 x4 1 x5 1 x6", least("0")},
	)
}

// TestInfeasible: certificates that take one row, several rows, and rows and columns; bounds on either side.
func TestInfeasible(t *testing.T) {
	checkPrograms(t,
		program{"min 0 / col x 1 0 1 / row r 2 inf 1 x", noPoint()}, program{"min 0 / col x 1 0 1 / row r -inf -1 1 x", noPoint()}, program{"min 0 / col x 1 0 1 / row r -inf -2 -1 x", noPoint()}, program{"min 0 / col x 1 0 1 / row r 1 inf -1 x", noPoint()},
		program{"min 0 / col x 0 0 inf / col y 0 0 inf / row r 1 inf 1 x -1 y / row s 1 inf -1 x 1 y", noPoint()}, program{"min 0 / col x 0 -inf inf / col y 0 -inf inf / row r 1 inf 1 x -1 y / row s 1 inf -1 x 1 y", noPoint()},
		program{"min 0 / col x 0 -inf inf / col y 0 -inf inf / col z 0 -inf inf / row r 1 inf 1 x -1 y / row s 1 inf 1 y -1 z / row u 1 inf -1 x 1 z", noPoint()},
		program{"min 0 / col x 0 -inf inf / col y 0 -inf inf / row r 1 1 1 x 2 y / row s 5 5 3 x 6 y", noPoint()}, program{"min 0 / col x -1 -inf inf / col y 0 -inf inf / row r 1 1 1 x 2 y / row s 3 3 3 x 6 y / row u 0 0 2 x 4 y", noPoint()},
		program{"min 0 / col x -1 0 inf / col y -1 0 inf / row r -inf -1 1 x 1 y", noPoint()}, program{"min 0 / col x -1 -inf 0 / col y -1 -inf 0 / row r 1/7 inf 1 x 1 y", noPoint()},
		program{"min 0 / col x -1 0 4 / col y 0 1 3 / col z 5 -inf inf / row r 9 inf 1 x 1 y / row s 2 inf 1 z / row u -inf 1 1 x -1 z", noPoint()},
		program{"min 0 / col x -1 0 inf / col y -1 0 inf / row r -inf 4 1 x 2 y / row s -inf 4 2 x 1 y / row u 3 inf 1 x 1 y", noPoint()}, program{"min 0 / col x -1 0 inf / col y -1 0 inf / row r -inf 4 1 x 2 y / row s -inf 4 2 x 1 y / row u 8/3 inf 1 x 1 y", least("-8/3")},
	)
}

// TestUnbounded: rays that go along a column, along several, and such as have to be made feasible first.
func TestUnbounded(t *testing.T) {
	checkPrograms(t,
		program{"min 0 / col x -1 0 inf / row r 0 inf 1 x", noLeast()}, program{"min 0 / col x 1 -inf 0 / row r -inf 0 1 x", noLeast()}, program{"min 0 / col x -1 3 inf / col y 0 0 1 / row r -inf 7 -2 x 1 y", noLeast()},
		program{"min 0 / col x -1 0 inf / col y -1 0 inf / row r -inf 1 1 x -1 y", noLeast()}, program{"min 0 / col x -1 0 inf / col y 0 0 inf / row r 0 0 1 x -1 y", noLeast()}, program{"min 0 / col x -2 0 inf / col y 1 0 inf / row r -inf 4 1 x -1 y / row s -9 inf 1 x -1 y", noLeast()},
		program{"min 0 / col x 1 -inf inf / col y 1 -inf inf / col z -3 -inf inf / row r 0 0 1 x 1 y -1 z / row s -inf 5 1 x -1 y", noLeast()},
		program{"min 0 / col x -1 0 inf / col y 0 0 inf / row r 4 inf 1 x 1 y / row s 3 inf -1 x 1 y", noLeast()}, program{"min 0 / col x -1 0 inf / col y 0 0 5 / row r 7 inf 1 x 1 y / row s 9 inf 2 x -1 y", noLeast()}, program{"min 0 / col x -1 0 inf / col y 0 0 inf / row r 5 5 1 x -1 y / row s 9 inf 1 x 1 y", noLeast()},
		program{"min 0 / col x -1 0 inf / col y 0 0 inf / row r 5 5 1 x -1 y / row s 9 inf 1 x 1 y / row u -inf 100 1 y", least("-105")},
	)
}

// TestLong: numbers of more limbs.
func TestLong(t *testing.T) {
	// The second row sets the second column, the first column goes to its upper bound.
	small, large := toBig(sample.Long().Offset), toBig(sample.Long().Cols[0].Cost)
	value := new(big.Rat).Mul(small, large)
	checkSolve(t, "more limbs", sample.Long(), least(value.Add(value, small).Add(value, large).String()))
	for _, c := range []struct {
		cost, lo, hi, by string
		want             wanted
	}{
		{"340282366920938463463374607431768211456", "1/340282366920938463463374607431768211457", "inf", "7", least("340282366920938463463374607431768211456/2381976568446569244243622252022377480199")},
		{"-1/340282366920938463463374607431768211456", "-inf", "340282366920938463463374607431768211456", "-1/340282366920938463463374607431768211457", noLeast()},
		{"1/340282366920938463463374607431768211456", "-inf", "340282366920938463463374607431768211456", "-1/3", least("-3")},
		{"1/99999999999999999999999999999999999999999999999999", "1", "inf", "1/99999999999999999999999999999999999999999999999998", least("99999999999999999999999999999999999999999999999998/99999999999999999999999999999999999999999999999999")},
	} {
		checkSolve(t, "more limbs", read(t, "min 0 / col x "+c.cost+" -inf inf / row r "+c.lo+" "+c.hi+" "+c.by+" x"), c.want)
	}
}
