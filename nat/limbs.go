package nat

import "math/bits"

const limbBits = 64

// trim cuts the noughts at a list's end. 0 is always nil, so that equal answers are alike in this, too.
func trim(a []uint64) []uint64 {
	n := len(a)
	for n > 0 && a[n-1] == 0 {
		n--
	}
	if n == 0 {
		return nil
	}
	return a[:n]
}

// padded copies a into a new list of n limbs.
func padded(a []uint64, n int) []uint64 {
	d := make([]uint64, n)
	copy(d, a)
	return d
}

func clone(a []uint64) []uint64 {
	return trim(padded(a, len(a)))
}

func fromWord(w uint64) []uint64 {
	return trim([]uint64{w})
}

func add(a, b []uint64) []uint64 {
	d := padded(a, max(len(a), len(b))+1)
	addTo(d, b)
	return trim(d)
}

// sub wants a not below b.
func sub(a, b []uint64) []uint64 {
	d := clone(a)
	subFrom(d, b)
	return trim(d)
}

func cmp(a, b []uint64) int {
	if len(a) != len(b) {
		return order(len(a) < len(b))
	}
	for i := range len(a) {
		k := len(a) - 1 - i
		if a[k] != b[k] {
			return order(a[k] < b[k])
		}
	}
	return 0
}

func order(below bool) int {
	if below {
		return -1
	}
	return 1
}

// addTo adds b to d, which is at least as long and has room for the sum.
func addTo(d, b []uint64) {
	var carry uint64
	for i := range len(b) {
		d[i], carry = bits.Add64(d[i], b[i], carry)
	}
	addWord(d[len(b):], carry)
}

// addWord adds w to d, which has room for the sum.
func addWord(d []uint64, w uint64) {
	for i := range len(d) {
		if w == 0 {
			return
		}
		d[i], w = bits.Add64(d[i], w, 0)
	}
}

// subFrom takes b from d, which is at least as long and not below b.
func subFrom(d, b []uint64) {
	var borrow uint64
	for i := range len(b) {
		d[i], borrow = bits.Sub64(d[i], b[i], borrow)
	}
	rest := d[len(b):]
	for i := range len(rest) {
		if borrow == 0 {
			return
		}
		rest[i], borrow = bits.Sub64(rest[i], borrow, 0)
	}
}

// mulAdd answers x * y + z: the high limb, then the low one.
func mulAdd(x, y, z uint64) (uint64, uint64) {
	high, low := bits.Mul64(x, y)
	low, carry := bits.Add64(low, z, 0)
	return high + carry, low
}

// mulAddTo adds a * w to the first limbs of d, as many as a has, and answers what goes over.
func mulAddTo(d, a []uint64, w uint64) uint64 {
	d = d[:len(a)]
	var over uint64
	for i := range len(a) {
		high, low := mulAdd(a[i], w, over)
		var carry uint64
		d[i], carry = bits.Add64(d[i], low, 0)
		over = high + carry
	}
	return over
}

// mulSubFrom takes a * w from the first limbs of d, as many as a has, and answers what was borrowed.
func mulSubFrom(d, a []uint64, w uint64) uint64 {
	d = d[:len(a)]
	var over uint64
	for i := range len(a) {
		high, low := mulAdd(a[i], w, over)
		var borrow uint64
		d[i], borrow = bits.Sub64(d[i], low, 0)
		over = high + borrow
	}
	return over
}

// shl answers a * 2^n.
func shl(a []uint64, n int) []uint64 {
	skip, part := n/limbBits, n%limbBits
	d := make([]uint64, skip+len(a)+1)
	for i := range len(a) {
		// In Go a shift by 64 gives 0: part 0 needs no case of its own.
		d[skip+i] |= a[i] << part
		d[skip+i+1] = a[i] >> (limbBits - part)
	}
	return trim(d)
}

// shrBits answers a / 2^n without the rest; n is below 64.
func shrBits(a []uint64, n int) []uint64 {
	d := make([]uint64, len(a))
	for i := range len(a) {
		d[i] = a[i] >> n
		if i > 0 {
			d[i-1] |= a[i] << (limbBits - n)
		}
	}
	return trim(d)
}
