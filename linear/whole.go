package linear

import (
	"tableau/api"
	"tableau/nat"
	"tableau/rat"
	"tableau/whole"
)

func isZero(a api.Whole) bool { return len(a.Mag) == 0 }

func isOne(a api.Whole) bool { return !a.Neg && len(a.Mag) == 1 && a.Mag[0] == 1 }

// limbs counts those of a row.
func limbs(row []api.Whole) int {
	n := 0
	for _, a := range row {
		n += len(a.Mag)
	}
	return n
}

func times(a, b api.Whole) api.Whole {
	product, _ := whole.Mul(a, b)
	return product
}

func minus(a, b api.Whole) api.Whole {
	difference, _ := whole.Sub(a, b)
	return difference
}

// over wants a b that divides a.
func over(a, b api.Whole) api.Whole {
	q, _, _ := whole.Divide(a, b)
	return q
}

// common answers the greatest common divisor.
func common(a, b api.Whole) api.Whole {
	mag, _ := nat.Gcd(a.Mag, b.Mag)
	return api.Whole{Mag: mag}
}

// quotient wants a b that is not 0.
func quotient(a, b api.Whole) api.Rat {
	r, _ := rat.Make(a, b)
	return r
}
