package nat

// Below so many limbs multiplying each limb by each is faster than cutting numbers in two.
const cutLimbs = 40

func mul(a, b []uint64) []uint64 {
	return trim(product(a, b))
}

// product answers a * b in a list of just len(a) + len(b) limbs. Its arguments may end with noughts.
func product(a, b []uint64) []uint64 {
	d := make([]uint64, len(a)+len(b))
	addProduct(d, a, b)
	return d
}

// addProduct adds a * b to d, which has room for both numbers' limbs and for the sum.
func addProduct(d, a, b []uint64) {
	if len(a) < len(b) {
		a, b = b, a
	}
	switch {
	case len(b) < cutLimbs:
		addLimbProducts(d, a, b)
	case len(b) <= half(len(a)):
		addPieceProducts(d, a, b)
	default:
		addCutProduct(d, a, b)
	}
}

func half(n int) int { return (n + 1) / 2 }

func addLimbProducts(d, a, b []uint64) {
	for i := range len(b) {
		addWord(d[i+len(a):], mulAddTo(d[i:], a, b[i]))
	}
}

// addPieceProducts cuts the longer number a into pieces of b's length.
func addPieceProducts(d, a, b []uint64) {
	for len(a) > 0 {
		n := min(len(b), len(a))
		addProduct(d, a[:n], b)
		a, d = a[n:], d[n:]
	}
}

// addCutProduct is Karatsuba's way: with a = a1 * B + a0 and b alike, the middle a1 * b0 + a0 * b1 is (a0 + a1) * (b0 + b1) less the two outer products, so that three products do instead of four.
func addCutProduct(d, a, b []uint64) {
	cut := half(len(a))
	low := product(a[:cut], b[:cut])
	high := product(a[cut:], b[cut:])
	middle := product(add(a[:cut], a[cut:]), add(b[:cut], b[cut:]))
	subFrom(middle, trim(low))
	subFrom(middle, trim(high))
	addTo(d, low)
	addTo(d[2*cut:], high)
	addTo(d[cut:], trim(middle))
}
