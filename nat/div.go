package nat

import "math/bits"

// divMod wants b not 0.
func divMod(a, b []uint64) ([]uint64, []uint64) {
	if cmp(a, b) < 0 {
		return nil, clone(a)
	}
	if len(b) == 1 {
		q, r := divWord(a, b[0])
		return q, fromWord(r)
	}
	return divLong(a, b)
}

func divWord(a []uint64, w uint64) ([]uint64, uint64) {
	q := make([]uint64, len(a))
	var rest uint64
	for i := range len(a) {
		k := len(a) - 1 - i
		q[k], rest = bits.Div64(rest, a[k], w)
	}
	return trim(q), rest
}

// modWord answers the rest alone.
func modWord(a []uint64, w uint64) uint64 {
	var rest uint64
	for i := range len(a) {
		_, rest = bits.Div64(rest, a[len(a)-1-i], w)
	}
	return rest
}

// divLong is Knuth's algorithm D. It wants a not below b, and b of two limbs or more. Both are shifted till the divisor's highest bit is set: only then is guess off by so little.
func divLong(a, b []uint64) ([]uint64, []uint64) {
	shift := bits.LeadingZeros64(b[len(b)-1])
	v := shl(b, shift)
	u := padded(shl(a, shift), len(a)+1)
	n := len(v)
	q := make([]uint64, len(u)-n)
	for i := range len(q) {
		k := len(q) - 1 - i
		q[k] = takeOut(u[k:k+n+1], v)
	}
	return trim(q), shrBits(trim(u[:n]), shift)
}

// takeOut takes v from u as often as it goes, and answers how often. u has one limb more than v, and v goes into it less than 2^64 times.
func takeOut(u, v []uint64) uint64 {
	n := len(v)
	times := guess(u[n], u[n-1], u[n-2], v[n-1], v[n-2])
	borrow := mulSubFrom(u, v, times)
	short := u[n] < borrow
	u[n] -= borrow
	if short {
		times--
		// The carry out of u makes good what was borrowed beyond it.
		addTo(u, v)
	}
	return times
}

// guess answers how often the limbs v1 v0 go into u2 u1 u0 (the highest named first), at most 2^64 - 1. Taken for longer numbers that begin so, it is right or 1 too great.
func guess(u2, u1, u0, v1, v0 uint64) uint64 {
	times, rest, carry := uint64(1<<64-1), uint64(0), uint64(0)
	if u2 < v1 {
		times, rest = bits.Div64(u2, u1, v1)
	} else {
		rest, carry = bits.Add64(u1, v1, 0)
	}
	// A rest above one limb is greater than any times * v0 could ask for.
	for carry == 0 {
		high, low := bits.Mul64(times, v0)
		if high < rest || high == rest && low <= u0 {
			break
		}
		times--
		rest, carry = bits.Add64(rest, v1, 0)
	}
	return times
}
