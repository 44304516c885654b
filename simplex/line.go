package simplex

import (
	"slices"

	"tableau/api"
	"tableau/nat"
)

// A line tells one number by others, which stand in slots: by times it is the sum of parts times theirs. By is above 0, and it and the parts are whole numbers without a common divisor: so they stay about as short as they can be. They are replaced, never changed: so limbs may stand in several lines.
type line struct {
	by    api.Whole
	parts []api.Whole
}

// newLine answers the line of the sum of these coefficients times the others.
func newLine(coefficients []api.Rat) line {
	l := line{by: commonMultiple(coefficients)}
	for _, r := range coefficients {
		l.parts = append(l.parts, product(numerator(r), over(l.by, denominator(r))))
	}
	return l
}

// commonMultiple answers the least one of the denominators.
func commonMultiple(list []api.Rat) api.Whole {
	m := []uint64{1}
	for _, r := range list {
		g, _ := nat.Gcd(m, r.Den)
		rest, _, _ := nat.DivMod(r.Den, g)
		m, _ = nat.Mul(m, rest)
	}
	return api.Whole{Mag: m}
}

// share answers how much of the number in this slot there is in the line's own.
func (l line) share(slot int) api.Rat { return quotient(l.parts[slot], l.by) }

// plus answers the line of l's number and num/den times k's. It wants a den above 0.
func (l line) plus(num, den api.Whole, k line) line {
	den = product(den, k.by)
	c := common(num, den)
	num, den = over(num, c), over(den, c)
	g := common(l.by, den)
	mine, other := over(den, g), product(num, over(l.by, g))
	out := line{by: product(mine, l.by), parts: make([]api.Whole, len(l.parts))}
	for slot := range out.parts {
		out.parts[slot] = sum(product(mine, l.parts[slot]), product(other, k.parts[slot]))
	}
	return out.shortened()
}

// shortened takes out what all have in common.
func (l line) shortened() line {
	c := l.by
	for _, a := range l.parts {
		if isOne(c) {
			return l
		}
		c = common(c, a)
	}
	out := line{by: over(l.by, c), parts: make([]api.Whole, len(l.parts))}
	for slot, a := range l.parts {
		out.parts[slot] = over(a, c)
	}
	return out
}

// turned answers the line of the number in this slot, where the line's own number then stands. It wants a part in this slot that is not 0.
func (l line) turned(slot int) line {
	out := line{by: l.parts[slot], parts: make([]api.Whole, len(l.parts))}
	for i, a := range l.parts {
		out.parts[i] = opposite(a)
	}
	out.parts[slot] = l.by
	if out.by.Neg {
		out.by = opposite(out.by)
		for i, a := range out.parts {
			out.parts[i] = opposite(a)
		}
	}
	return out
}

// with answers the line of the same number, if the one in this slot is told by the line in.
func (l line) with(slot int, in line) line {
	part := l.parts[slot]
	if isZero(part) {
		return l
	}
	rest := line{by: l.by, parts: slices.Clone(l.parts)}
	rest.parts[slot] = api.Whole{}
	return rest.plus(part, l.by, in)
}
