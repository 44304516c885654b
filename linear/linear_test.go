package linear_test

import (
	"testing"

	"tableau/api"
	"tableau/linear"
)

func TestCheck(t *testing.T) {
	for _, a := range append(matrices(), filled(128, 128, frac(1, 2)), filled(128, 0, frac(0, 1)), filled(1, 128, frac(0, 1)), filled(128, 1, frac(0, 1))) {
		if e := linear.Check(a); e != api.OK {
			t.Errorf("P6.1: Check(%v) = %d", a, e)
		}
	}
}

func TestMul(t *testing.T) {
	s := source(11)
	for _, a := range matrices() {
		for range 4 {
			x := s.matrix(1, width(a))[0]
			if y, e := linear.Mul(a, x); !sameRats(y, times(a, x)) || e != api.OK {
				t.Errorf("P6.2: Mul(%v, %v) = %v, %d", a, x, y, e)
			}
		}
	}
	if y, e := linear.Mul([][]api.Rat{nil, {}, nil}, nil); !sameRats(y, zeros(3)) || e != api.OK {
		t.Errorf("P6.2: Mul of rows without numbers = %v, %d", y, e)
	}
	if y, e := linear.Mul(nil, nil); len(y) != 0 || e != api.OK {
		t.Errorf("P6.2: Mul without rows = %v, %d", y, e)
	}
	if y, e := linear.Mul(filled(128, 128, frac(1, 2)), filled(1, 128, frac(3, 1))[0]); !sameRats(y, filled(1, 128, frac(192, 1))[0]) || e != api.OK {
		t.Errorf("P6.2: Mul of 128 rows = %v, %d", y, e)
	}
}

func TestTranspose(t *testing.T) {
	for _, a := range matrices() {
		want := make([][]api.Rat, width(a))
		for _, row := range a {
			for k, r := range row {
				want[k] = append(want[k], r)
			}
		}
		if b, e := linear.Transpose(a); !sameMatrix(b, want) || e != api.OK {
			t.Errorf("P6.2: Transpose(%v) = %v, %d", a, b, e)
		}
	}
	b, e := linear.Transpose([][]api.Rat{nums(1, 2, 3)})
	if !sameMatrix(b, [][]api.Rat{nums(1), nums(2), nums(3)}) || e != api.OK {
		t.Errorf("P6.2: Transpose of one row = %v, %d", b, e)
	}
	if b, e := linear.Transpose(filled(128, 2, frac(1, 3))); !sameMatrix(b, filled(2, 128, frac(1, 3))) || e != api.OK {
		t.Errorf("P6.2: Transpose of 128 rows = %v, %d", b, e)
	}
}

func TestRank(t *testing.T) {
	for _, a := range matrices() {
		if n, e := linear.Rank(a); n != rank(a) || e != api.OK {
			t.Errorf("P6.3: Rank(%v) = %d, %d", a, n, e)
		}
	}
	for _, c := range []struct {
		a    [][]api.Rat
		want int
	}{
		{nil, 0}, {filled(128, 0, frac(0, 1)), 0}, {filled(128, 128, frac(0, 1)), 0}, {filled(128, 128, frac(5, 7)), 1}, {filled(1, 128, frac(5, 7)), 1}, {filled(128, 1, frac(5, 7)), 1}, {identity(128), 128}, {identity(128)[:90], 90},
		{[][]api.Rat{nums(1, 2), nums(2, 4)}, 1},
	} {
		if n, e := linear.Rank(c.a); n != c.want || e != api.OK {
			t.Errorf("P6.3: Rank of %d rows = %d, %d", len(c.a), n, e)
		}
	}
}

func TestDet(t *testing.T) {
	for _, a := range matrices() {
		if width(a) != len(a) {
			continue
		}
		if d, e := linear.Det(a); !sameRat(d, fromBig(expanded(a))) || e != api.OK {
			t.Errorf("P6.3: Det(%v) = %v, %d", a, d, e)
		}
	}
	s := source(29)
	for range 10 {
		a := s.matrix(6, 6)
		if d, e := linear.Det(a); !sameRat(d, fromBig(expanded(a))) || e != api.OK {
			t.Errorf("P6.3: Det(%v) = %v, %d", a, d, e)
		}
	}
	if d, e := linear.Det([][]api.Rat{}); !sameRat(d, frac(1, 1)) || e != api.OK {
		t.Errorf("P6.3: Det of no rows = %v, %d", d, e)
	}
	if d, e := linear.Det(identity(128)); !sameRat(d, frac(1, 1)) || e != api.OK {
		t.Errorf("P6.3: Det of 128 rows = %v, %d", d, e)
	}
}

// TestSolve: b that a times some x is has just one x where the columns are independent; b that makes the rank greater has none.
func TestSolve(t *testing.T) {
	s := source(5)
	for _, a := range matrices() {
		full := rank(a) == width(a)
		for range 3 {
			x := s.matrix(1, width(a))[0]
			checkSolve(t, a, times(a, x), x, full)
			b := s.matrix(1, len(a))[0]
			if rank(beside(a, b)) > rank(a) {
				checkSolve(t, a, b, nil, false)
			}
		}
	}
}

func checkSolve(t *testing.T, a [][]api.Rat, b, want []api.Rat, one bool) {
	t.Helper()
	x, e := linear.Solve(a, b)
	if one && (!sameRats(x, want) || e != api.OK) {
		t.Errorf("P6.4: Solve(%v, %v) = %v, %d", a, b, x, e)
	}
	if !one && (x != nil || e != api.ErrNone) {
		t.Errorf("P6.4: Solve(%v, %v) = %v, %d, though there is not just one", a, b, x, e)
	}
}

func TestSolveEdges(t *testing.T) {
	tall := [][]api.Rat{nums(1, 1), nums(1, -1), nums(2, 0)}
	empty := [][]api.Rat{nil, {}}
	checkSolve(t, tall, nums(3, 1, 4), nums(2, 1), true)
	checkSolve(t, tall, nums(3, 1, 5), nil, false)
	checkSolve(t, [][]api.Rat{nums(1, 1)}, nums(1), nil, false)
	checkSolve(t, nil, nil, nil, true)
	checkSolve(t, empty, nums(0, 0), nil, true)
	checkSolve(t, empty, nums(0, 1), nil, false)
	checkSolve(t, [][]api.Rat{nums(0)}, nums(0), nil, false)
	checkSolve(t, [][]api.Rat{nums(0)}, nums(1), nil, false)
	checkSolve(t, [][]api.Rat{nums(0), nums(0), nums(-4)}, nums(0, 0, 3), []api.Rat{frac(-3, 4)}, true)
	checkSolve(t, [][]api.Rat{nums(0), nums(0), nums(-4)}, nums(0, 1, 3), nil, false)
	checkSolve(t, identity(128), filled(1, 128, frac(2, 3))[0], filled(1, 128, frac(2, 3))[0], true)
	checkSolve(t, filled(128, 1, frac(2, 1)), filled(1, 128, frac(3, 1))[0], []api.Rat{frac(3, 2)}, true)
	checkSolve(t, filled(1, 128, frac(2, 1)), nums(1), nil, false)
}

func TestInverse(t *testing.T) {
	for _, a := range matrices() {
		if width(a) != len(a) {
			continue
		}
		inv, e := linear.Inverse(a)
		if expanded(a).Sign() == 0 {
			if inv != nil || e != api.ErrNone {
				t.Errorf("P6.4: Inverse(%v) = %v, %d", a, inv, e)
			}
			continue
		}
		if e != api.OK || len(inv) != len(a) || width(inv) != len(a) || !sameMatrix(product(a, inv, len(a)), identity(len(a))) {
			t.Errorf("P6.4: Inverse(%v) = %v, %d", a, inv, e)
		}
	}
	inv, e := linear.Inverse([][]api.Rat{nums(1, 2), nums(3, 4)})
	if !sameMatrix(inv, [][]api.Rat{nums(-2, 1), {frac(3, 2), frac(-1, 2)}}) || e != api.OK {
		t.Errorf("P6.4: Inverse = %v, %d", inv, e)
	}
	if inv, e := linear.Inverse(nil); len(inv) != 0 || e != api.OK {
		t.Errorf("P6.4: Inverse of no rows = %v, %d", inv, e)
	}
	if inv, e := linear.Inverse(identity(128)); !sameMatrix(inv, identity(128)) || e != api.OK {
		t.Errorf("P6.4: Inverse of 128 rows: %d", e)
	}
	if inv, e := linear.Inverse(filled(128, 128, frac(1, 1))); inv != nil || e != api.ErrNone {
		t.Errorf("P6.4: Inverse of 128 rows of rank 1: %d", e)
	}
}

// TestGreat: 20 rows by chance; what the calls answer goes together.
func TestGreat(t *testing.T) {
	const n = 20
	s := source(77)
	a := s.matrix(n, n)
	x := s.matrix(1, n)[0]
	checkSolve(t, a, times(a, x), x, true)
	inv, e := linear.Inverse(a)
	if e != api.OK || !sameMatrix(product(a, inv, n), identity(n)) {
		t.Errorf("P6.4: Inverse of %d rows: %d", n, e)
	}
	d, e := linear.Det(a)
	back, f := linear.Det(inv)
	if !sameRats(times([][]api.Rat{{d}}, []api.Rat{back}), nums(1)) || e != api.OK || f != api.OK {
		t.Errorf("P6.3: Det of %d rows and of their inverse: %v, %d and %v, %d", n, d, e, back, f)
	}
	if r, e := linear.Rank(a); r != n || e != api.OK {
		t.Errorf("P6.3: Rank of %d rows = %d, %d", n, r, e)
	}
}
