package linear

import (
	"tableau/api"
	"tableau/rat"
)

// width answers the count of columns; a matrix without rows has none.
func width(a [][]api.Rat) int {
	if len(a) == 0 {
		return 0
	}
	return len(a[0])
}

func tooLong(a [][]api.Rat) bool {
	for _, row := range a {
		if len(row) > api.MaxSide {
			return true
		}
	}
	return len(a) > api.MaxSide
}

func allForm(a [][]api.Rat) bool {
	for _, row := range a {
		for _, r := range row {
			if !rat.Form(r) {
				return false
			}
		}
	}
	return true
}

// even asks whether all rows have one length.
func even(a [][]api.Rat) bool {
	for _, row := range a {
		if len(row) != width(a) {
			return false
		}
	}
	return true
}

// checkColumn asks of a column of n numbers what Check asks of a matrix.
func checkColumn(x []api.Rat, n int) api.Errno {
	e := Check([][]api.Rat{x})
	if len(x) != n {
		return least(e, api.ErrUnlike)
	}
	return e
}

func checkSquare(a [][]api.Rat) api.Errno {
	e := Check(a)
	if width(a) != len(a) {
		return least(e, api.ErrUnlike)
	}
	return e
}

// least answers the error with the lesser number; OK is none.
func least(e, f api.Errno) api.Errno {
	if e == api.OK || f != api.OK && f < e {
		return f
	}
	return e
}

// dot wants two lists of one length, in form.
func dot(v, x []api.Rat) api.Rat {
	sum := rat.Of(0)
	for i := range v {
		product, _ := rat.Mul(v[i], x[i])
		sum, _ = rat.Add(sum, product)
	}
	return sum
}

// beside answers the matrix with further numbers behind each row. It keeps all limbs, for reckoning only.
func beside(a [][]api.Rat, more func(i int) []api.Rat) [][]api.Rat {
	out := make([][]api.Rat, len(a))
	for i, row := range a {
		out[i] = append(out[i], row...)
		out[i] = append(out[i], more(i)...)
	}
	return out
}

// unit answers n numbers: 1 at place i, else 0.
func unit(n, i int) []api.Rat {
	x := make([]api.Rat, n)
	for k := range x {
		x[k] = rat.Of(0)
	}
	x[i] = rat.Of(1)
	return x
}
