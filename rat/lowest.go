package rat

import (
	"tableau/api"
	"tableau/nat"
	"tableau/whole"
)

// numerator answers the numerator with its sign. It keeps r's limbs.
func numerator(r api.Rat) api.Whole { return api.Whole{Neg: r.Neg, Mag: r.Num} }

// denominator keeps r's limbs.
func denominator(r api.Rat) api.Whole { return api.Whole{Mag: r.Den} }

// signed answers the number of this sign, numerator and denominator; 0 has no sign. It keeps both lists.
func signed(neg bool, num, den []uint64) api.Rat {
	return api.Rat{Neg: neg && len(num) > 0, Num: num, Den: den}
}

// one makes a new list each time, as it goes into answers.
func one() []uint64 { return []uint64{1} }

func isOne(a []uint64) bool { return len(a) == 1 && a[0] == 1 }

func clone(a []uint64) []uint64 { return append([]uint64(nil), a...) }

func gcd(a, b []uint64) []uint64 {
	// Most denominators are 1.
	if isOne(a) || isOne(b) {
		return one()
	}
	g, _ := nat.Gcd(a, b)
	return g
}

// over answers a / g, for a g that divides a. It is a itself where g is 1.
func over(a, g []uint64) []uint64 {
	if isOne(g) {
		return a
	}
	q, _, _ := nat.DivMod(a, g)
	return q
}

// add takes out ahead what the denominators have in common: the numbers on the way stay short, and nothing but that can be left to shorten the sum by.
func add(a, b api.Rat) api.Rat {
	g := gcd(a.Den, b.Den)
	restA, restB := over(a.Den, g), over(b.Den, g)
	x, _ := whole.Mul(numerator(a), api.Whole{Mag: restB})
	y, _ := whole.Mul(numerator(b), api.Whole{Mag: restA})
	sum, _ := whole.Add(x, y)
	left := gcd(sum.Mag, g)
	den, _ := nat.Mul(restA, over(b.Den, left))
	return signed(sum.Neg, over(sum.Mag, left), den)
}

// mul shortens crosswise ahead: each of the two numbers being in lowest terms, nothing is left to shorten the product by.
func mul(a, b api.Rat) api.Rat {
	g, h := gcd(a.Num, b.Den), gcd(b.Num, a.Den)
	num, _ := nat.Mul(over(a.Num, g), over(b.Num, h))
	den, _ := nat.Mul(over(a.Den, h), over(b.Den, g))
	return signed(a.Neg != b.Neg, num, den)
}
