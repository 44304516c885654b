package linear_test

import (
	"testing"

	"tableau/api"
	"tableau/guard"
	"tableau/linear"
)

// calls: each call, with all lists that it answers.
func calls() map[string]func(b *guard.Book, a [][]api.Rat, x []api.Rat) {
	return map[string]func(b *guard.Book, a [][]api.Rat, x []api.Rat){
		"Mul": func(b *guard.Book, a [][]api.Rat, x []api.Rat) {
			y, _ := linear.Mul(a, x)
			b.Rats(y)
		},
		"Transpose": func(b *guard.Book, a [][]api.Rat, x []api.Rat) {
			m, _ := linear.Transpose(a)
			b.Matrix(m)
		},
		"Det": func(b *guard.Book, a [][]api.Rat, x []api.Rat) {
			d, _ := linear.Det(a)
			b.Rat(d)
		},
		"Solve": func(b *guard.Book, a [][]api.Rat, x []api.Rat) {
			y, _ := linear.Solve(a, x)
			b.Rats(y)
		},
		"Inverse": func(b *guard.Book, a [][]api.Rat, x []api.Rat) {
			m, _ := linear.Inverse(a)
			b.Matrix(m)
		},
		"none": func(b *guard.Book, a [][]api.Rat, x []api.Rat) {
			linear.Check(a)
			linear.Rank(a)
		},
	}
}

// TestMemory: with columns for Mul and for Solve, among them noughts and ones, and with what is wrong.
func TestMemory(t *testing.T) {
	bad := api.Rat{Num: []uint64{2}, Den: []uint64{4}}
	some := append(matrices(), [][]api.Rat{nums(1, 2), nums(3)}, [][]api.Rat{{bad, bad}, nums(1, 2)})
	s := source(9)
	for name, call := range calls() {
		for _, a := range some {
			for _, n := range []int{len(a), width(a)} {
				for _, x := range [][]api.Rat{zeros(n), filled(1, n, frac(1, 1))[0], s.matrix(1, n)[0], filled(1, n, bad)[0]} {
					checkMemory(t, name, call, guard.Matrix(a), guard.Rats(x))
				}
			}
		}
	}
}

// TestOneRow: the same list as each row, and as the column.
func TestOneRow(t *testing.T) {
	for name, call := range calls() {
		row := guard.Rats(nums(2, 3))
		checkMemory(t, name, call, [][]api.Rat{row, row}, row)
		one := guard.Rats(nums(2))
		checkMemory(t, name, call, [][]api.Rat{one}, one)
	}
}

func checkMemory(t *testing.T, name string, call func(b *guard.Book, a [][]api.Rat, x []api.Rat), a [][]api.Rat, x []api.Rat) {
	t.Helper()
	handed := func(b *guard.Book) {
		b.Matrix(a)
		b.Rats(x)
	}
	if fault := guard.Fault(handed, func(b *guard.Book) { call(b, a, x) }); fault != "" {
		t.Errorf("%s of %d rows: %s", name, len(a), fault)
	}
}
