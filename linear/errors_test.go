package linear_test

import (
	"slices"
	"testing"

	"tableau/api"
	"tableau/linear"
)

// checkBad: each call tells this error of its matrix, with nothing beside it, whatever of the errors above it applies to the column.
func checkBad(t *testing.T, a [][]api.Rat, want api.Errno) {
	t.Helper()
	if e := linear.Check(a); e != want {
		t.Errorf("P6.1: Check of %d rows: %d, not %d", len(a), e, want)
	}
	m, e1 := linear.Transpose(a)
	r, e2 := linear.Rank(a)
	d, e3 := linear.Det(a)
	inv, e4 := linear.Inverse(a)
	if m != nil || r != 0 || !none(d) || inv != nil {
		t.Errorf("P6.1: beside %d stand %v, %d, %v, %v", want, m, r, d, inv)
	}
	if !slices.Equal([]api.Errno{e1, e2, e3, e4}, []api.Errno{want, want, want, want}) {
		t.Errorf("P6.1: Transpose, Rank, Det, Inverse of %d rows: %d, %d, %d, %d, not %d", len(a), e1, e2, e3, e4, want)
	}
	for _, n := range []int{0, 1, 2, len(a), width(a)} {
		checkBadColumn(t, a, zeros(min(n, 128)), want, want)
	}
}

// checkBadColumn: Mul and Solve tell these errors.
func checkBadColumn(t *testing.T, a [][]api.Rat, x []api.Rat, mul, solve api.Errno) {
	t.Helper()
	if y, e := linear.Mul(a, x); y != nil || e != mul {
		t.Errorf("P6.2: Mul of %d rows and %d numbers = %v, %d, not %d", len(a), len(x), y, e, mul)
	}
	if y, e := linear.Solve(a, x); y != nil || e != solve {
		t.Errorf("P6.4: Solve of %d rows and %d numbers = %v, %d, not %d", len(a), len(x), y, e, solve)
	}
}

func TestLong(t *testing.T) {
	bad := api.Rat{}
	for _, a := range [][][]api.Rat{
		filled(129, 129, frac(1, 1)), filled(129, 1, frac(1, 1)), filled(1, 129, frac(1, 1)), filled(129, 0, bad), filled(128, 129, frac(0, 1)),
		filled(129, 1, bad), filled(1, 129, bad),
		{nums(1), zeros(129)}, {zeros(129), nums(1)}, {nums(1, 2), nums(3), append(zeros(128), bad)}, append(filled(128, 2, bad), nums(1)),
	} {
		checkBad(t, a, api.ErrLong)
	}
	for _, a := range [][][]api.Rat{nil, {nums(1, 2)}, {nums(1), nums(1, 2)}, {{bad}}, filled(128, 128, frac(0, 1)), filled(128, 128, bad)} {
		for _, x := range [][]api.Rat{zeros(129), make([]api.Rat, 129), append(zeros(200), bad)} {
			checkBadColumn(t, a, x, api.ErrLong, api.ErrLong)
		}
	}
}

func TestBadForm(t *testing.T) {
	for _, bad := range badNumbers() {
		for _, a := range [][][]api.Rat{
			{{bad}}, {{frac(1, 1), bad}}, {nums(1, 2), {bad, frac(1, 1)}}, {nums(1, 2), {frac(1, 1), bad}},
			{{bad}, nums(1, 2)}, {nums(1), nums(1, 2), {bad}}, {nums(1), {frac(1, 1), bad}}, {nil, {bad}}, {nums(1, 2, 3), {bad, bad, bad}},
			append(filled(127, 128, frac(0, 1)), append(zeros(127), bad)),
		} {
			checkBad(t, a, api.ErrForm)
		}
		for _, a := range [][][]api.Rat{nil, {nums(1, 2)}, {nums(1), nums(1, 2)}, identity(3), {nums(1, 2), nums(2, 4)}} {
			for _, x := range [][]api.Rat{{bad}, {bad, frac(1, 1)}, {frac(1, 1), bad}, {frac(1, 1), frac(1, 1), bad}, append(zeros(127), bad)} {
				checkBadColumn(t, a, x, api.ErrForm, api.ErrForm)
			}
		}
	}
}

func TestUnlike(t *testing.T) {
	for _, a := range [][][]api.Rat{{nums(1), nums(1, 2)}, {nums(1, 2), nums(1)}, {nil, nums(1)}, {nums(1), nil}, {nums(1, 2), nums(3, 4), nums(5)}, {nums(1, 2), nums(3, 4, 5)}, append(filled(127, 128, frac(1, 1)), zeros(127))} {
		checkBad(t, a, api.ErrUnlike)
	}
	for _, a := range matrices() {
		checkUnlikeColumns(t, a)
		if width(a) == len(a) {
			continue
		}
		d, e := linear.Det(a)
		inv, f := linear.Inverse(a)
		if !none(d) || inv != nil || e != api.ErrUnlike || f != api.ErrUnlike {
			t.Errorf("P6.3, P6.4: Det and Inverse of %v: %v, %d and %v, %d", a, d, e, inv, f)
		}
	}
}

// checkUnlikeColumns: one number too many and too few, of Mul by the columns, of Solve by the rows, whether there is a solution or not.
func checkUnlikeColumns(t *testing.T, a [][]api.Rat) {
	t.Helper()
	for _, n := range []int{width(a) - 1, width(a) + 1, 128} {
		if n < 0 {
			continue
		}
		if y, e := linear.Mul(a, zeros(n)); y != nil || e != api.ErrUnlike {
			t.Errorf("P6.2: Mul(%v, %d numbers) = %v, %d", a, n, y, e)
		}
	}
	for _, n := range []int{len(a) - 1, len(a) + 1, 128} {
		if n < 0 {
			continue
		}
		if x, e := linear.Solve(a, zeros(n)); x != nil || e != api.ErrUnlike {
			t.Errorf("P6.4: Solve(%v, %d numbers) = %v, %d", a, n, x, e)
		}
	}
}
