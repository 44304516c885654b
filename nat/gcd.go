package nat

import "math/bits"

func gcd(a, b []uint64) []uint64 {
	if cmp(a, b) < 0 {
		a, b = b, a
	}
	if len(b) > 1 {
		// Clones, as the steps are done in place.
		a, b = shorten(clone(a), clone(b))
	}
	if len(b) == 0 {
		return clone(a)
	}
	return fromWord(gcdWord(b[0], modWord(a, b[0])))
}

// shorten does Euclid's steps till b has less than two limbs.
func shorten(a, b []uint64) ([]uint64, []uint64) {
	for len(b) > 1 {
		a, b = euclid(a, b)
	}
	return a, b
}

func gcdWord(a, b uint64) uint64 {
	for b != 0 {
		a, b = b, a%b
	}
	return a
}

// euclid does one or more of Euclid's steps, and answers the two numbers that they lead to in the lists that it was handed, or in others. It wants a not below b, and b of two limbs or more. It is Lehmer's way: the steps are found on the highest bits, and done at once on the whole numbers.
func euclid(a, b []uint64) ([]uint64, []uint64) {
	s := findSteps(highBits(a, b))
	if s.some() {
		return s.apply(a, b)
	}
	// The first quotient is not to be told from the highest bits.
	_, rest := divMod(a, b)
	return b, rest
}

// steps are Euclid's steps from numbers a and b to the two numbers a0 * a - b0 * b and b1 * b - a1 * a; both with the other sign where their count is odd.
type steps struct {
	a0, b0, a1, b1 uint64
	odd            bool
}

func (s steps) some() bool { return s.b0 != 0 }

// findSteps finds steps that are the same for all numbers that begin with the bits a and b. A step is taken while Collins' condition tells that no bits further down can change its quotient; under it nothing here goes beyond 64 bits.
func findSteps(a, b uint64) steps {
	s := steps{a0: 1, b1: 1}
	for b != 0 {
		q := a / b
		rest := a - q*b
		next := steps{s.a1, s.b1, s.a0 + q*s.a1, s.b0 + q*s.b1, !s.odd}
		if rest < next.b1 || b-rest < next.b0+next.b1 {
			break
		}
		a, b, s = b, rest, next
	}
	return s
}

// apply does the steps in place. What they lead to is not above b: no limbs beyond b's are needed, and what goes over is left out.
func (s steps) apply(a, b []uint64) ([]uint64, []uint64) {
	a = a[:len(b)]
	if s.odd {
		a, b = b, a
		s.a0, s.b0, s.a1, s.b1 = s.b0, s.a0, s.b1, s.a1
	}
	var plusA, lessB, plusB, lessA, borrow uint64
	for i := range len(a) {
		x, y := a[i], b[i]
		var plus, less uint64
		plusA, plus = mulAdd(x, s.a0, plusA)
		lessB, less = mulAdd(y, s.b0, lessB)
		a[i], borrow = bits.Sub64(plus, less, 0)
		lessB += borrow
		plusB, plus = mulAdd(y, s.b1, plusB)
		lessA, less = mulAdd(x, s.a1, lessA)
		b[i], borrow = bits.Sub64(plus, less, 0)
		lessA += borrow
	}
	return trim(a), trim(b)
}

// highBits answers the 64 highest bits of a, and those of b at the same places.
func highBits(a, b []uint64) (uint64, uint64) {
	top := len(a) - 1
	shift := bits.LeadingZeros64(a[top])
	return bitsFrom(a, top, shift), bitsFrom(b, top, shift)
}

// bitsFrom answers 64 bits, the first of them so many places below the highest bit of that limb.
func bitsFrom(a []uint64, limb, shift int) uint64 {
	return limbAt(a, limb)<<shift | limbAt(a, limb-1)>>(limbBits-shift)
}

func limbAt(a []uint64, i int) uint64 {
	if i >= len(a) {
		return 0
	}
	return a[i]
}
