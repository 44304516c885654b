// Package nat is layer 1: natural numbers of any length, as lists of limbs to the base 2^64, the lowest first (see shared/doc/01-nat.md).
//
// The exported functions ask whether what they are handed is in form; the others rely on it.
package nat

import "tableau/api"

// Form: is the last limb not 0?
func Form(a []uint64) bool {
	return len(a) == 0 || a[len(a)-1] != 0
}

// Add: the sum.
func Add(a, b []uint64) ([]uint64, api.Errno) {
	if !Form(a) || !Form(b) {
		return nil, api.ErrForm
	}
	return add(a, b), api.OK
}

// Sub: the difference, where a is not below b.
func Sub(a, b []uint64) ([]uint64, api.Errno) {
	if !Form(a) || !Form(b) {
		return nil, api.ErrForm
	}
	if cmp(a, b) < 0 {
		return nil, api.ErrArg
	}
	return sub(a, b), api.OK
}

// Mul: the product.
func Mul(a, b []uint64) ([]uint64, api.Errno) {
	if !Form(a) || !Form(b) {
		return nil, api.ErrForm
	}
	return mul(a, b), api.OK
}

// DivMod: quotient and rest.
func DivMod(a, b []uint64) ([]uint64, []uint64, api.Errno) {
	if !Form(a) || !Form(b) {
		return nil, nil, api.ErrForm
	}
	if len(b) == 0 {
		return nil, nil, api.ErrZero
	}
	q, r := divMod(a, b)
	return q, r, api.OK
}

// Gcd: the greatest common divisor.
func Gcd(a, b []uint64) ([]uint64, api.Errno) {
	if !Form(a) || !Form(b) {
		return nil, api.ErrForm
	}
	return gcd(a, b), api.OK
}

// Cmp: -1, 0 or 1.
func Cmp(a, b []uint64) (int, api.Errno) {
	if !Form(a) || !Form(b) {
		return 0, api.ErrForm
	}
	return cmp(a, b), api.OK
}

// Shl: a times 2 to the n.
func Shl(a []uint64, n int) ([]uint64, api.Errno) {
	if n < 0 || n > api.MaxShift {
		return nil, api.ErrArg
	}
	if !Form(a) {
		return nil, api.ErrForm
	}
	return shl(a, n), api.OK
}

// Text: the decimal digits.
func Text(a []uint64) (string, api.Errno) {
	if !Form(a) {
		return "", api.ErrForm
	}
	return digits(a), api.OK
}

// Read: the number with these decimal digits.
func Read(s string) ([]uint64, api.Errno) {
	if len(s) > api.MaxText {
		return nil, api.ErrLong
	}
	if !isNumber(s) {
		return nil, api.ErrText
	}
	return fromDigits(s), api.OK
}
