package simplex

import (
	"slices"

	"tableau/api"
	"tableau/nat"
	"tableau/rat"
	"tableau/whole"
)

func isZero(a api.Whole) bool { return len(a.Mag) == 0 }

func isOne(a api.Whole) bool { return !a.Neg && len(a.Mag) == 1 && a.Mag[0] == 1 }

// numerator keeps r's limbs, as denominator does.
func numerator(r api.Rat) api.Whole { return api.Whole{Neg: r.Neg, Mag: r.Num} }

func denominator(r api.Rat) api.Whole { return api.Whole{Mag: r.Den} }

// product may answer what it was handed: most factors are 0 or 1.
func product(a, b api.Whole) api.Whole {
	switch {
	case isZero(a) || isOne(b):
		return a
	case isZero(b) || isOne(a):
		return b
	}
	c, _ := whole.Mul(a, b)
	return c
}

// sum may answer what it was handed.
func sum(a, b api.Whole) api.Whole {
	switch {
	case isZero(a):
		return b
	case isZero(b):
		return a
	}
	c, _ := whole.Add(a, b)
	return c
}

func opposite(a api.Whole) api.Whole { return api.Whole{Neg: !a.Neg && !isZero(a), Mag: a.Mag} }

// over wants a b that divides a.
func over(a, b api.Whole) api.Whole {
	if isOne(b) {
		return a
	}
	q, _, _ := whole.Divide(a, b)
	return q
}

// common answers the greatest common divisor.
func common(a, b api.Whole) api.Whole {
	mag, _ := nat.Gcd(a.Mag, b.Mag)
	return api.Whole{Mag: mag}
}

// quotient answers a new number. It wants a b that is not 0.
func quotient(a, b api.Whole) api.Rat {
	r, _ := rat.Make(a, b)
	return r
}

// plus wants both in form, as the others below do.
func plus(a, b api.Rat) api.Rat {
	c, _ := rat.Add(a, b)
	return c
}

func minus(a, b api.Rat) api.Rat {
	c, _ := rat.Sub(a, b)
	return c
}

func times(a, b api.Rat) api.Rat {
	c, _ := rat.Mul(a, b)
	return c
}

func negative(a api.Rat) api.Rat {
	c, _ := rat.Neg(a)
	return c
}

func compare(a, b api.Rat) int {
	c, _ := rat.Cmp(a, b)
	return c
}

// sameRat wants one of the two in form, which a number has but one.
func sameRat(a, b api.Rat) bool {
	return a.Neg == b.Neg && slices.Equal(a.Num, b.Num) && slices.Equal(a.Den, b.Den)
}

func isNought(r api.Rat) bool { return len(r.Num) == 0 }

// noughts: each with memory of its own.
func noughts(n int) []api.Rat {
	list := make([]api.Rat, n)
	for place := range list {
		list[place] = rat.Of(0)
	}
	return list
}
