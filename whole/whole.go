// Package whole is layer 2: whole numbers of any length, each a magnitude with a sign (see shared/doc/02-whole.md).
//
// The exported functions ask whether what they are handed is in form, and whether a divisor is 0: so the calls of nat behind them have no error to tell.
package whole

import (
	"slices"
	"strings"

	"tableau/api"
	"tableau/nat"
)

// Form: is a in form?
func Form(a api.Whole) bool {
	return nat.Form(a.Mag) && !(a.Neg && len(a.Mag) == 0)
}

// Of: the number n.
func Of(n int) api.Whole {
	if n == 0 {
		return api.Whole{}
	}
	mag := uint64(n)
	if n < 0 {
		// Wraps round to 2^63 for the least int, whose negative is no int.
		mag = -mag
	}
	return api.Whole{Neg: n < 0, Mag: []uint64{mag}}
}

// Add: the sum.
func Add(a, b api.Whole) (api.Whole, api.Errno) {
	if !Form(a) || !Form(b) {
		return api.Whole{}, api.ErrForm
	}
	return add(a, b), api.OK
}

// Sub: the difference.
func Sub(a, b api.Whole) (api.Whole, api.Errno) {
	if !Form(a) || !Form(b) {
		return api.Whole{}, api.ErrForm
	}
	return add(a, signed(!b.Neg, b.Mag)), api.OK
}

// Mul: the product.
func Mul(a, b api.Whole) (api.Whole, api.Errno) {
	if !Form(a) || !Form(b) {
		return api.Whole{}, api.ErrForm
	}
	mag, _ := nat.Mul(a.Mag, b.Mag)
	return signed(a.Neg != b.Neg, mag), api.OK
}

// Neg: -a.
func Neg(a api.Whole) (api.Whole, api.Errno) {
	if !Form(a) {
		return api.Whole{}, api.ErrForm
	}
	return signed(!a.Neg, slices.Clone(a.Mag)), api.OK
}

// Cmp: -1, 0 or 1.
func Cmp(a, b api.Whole) (int, api.Errno) {
	switch {
	case !Form(a) || !Form(b):
		return 0, api.ErrForm
	case a.Neg && !b.Neg:
		return -1, api.OK
	case !a.Neg && b.Neg:
		return 1, api.OK
	case a.Neg:
		return nat.Cmp(b.Mag, a.Mag)
	}
	return nat.Cmp(a.Mag, b.Mag)
}

// Divide: the quotient rounded down, and the rest, which has the divisor's sign or is 0.
func Divide(a, b api.Whole) (api.Whole, api.Whole, api.Errno) {
	if !Form(a) || !Form(b) {
		return api.Whole{}, api.Whole{}, api.ErrForm
	}
	if len(b.Mag) == 0 {
		return api.Whole{}, api.Whole{}, api.ErrZero
	}
	q, r, _ := nat.DivMod(a.Mag, b.Mag)
	if a.Neg != b.Neg && len(r) > 0 {
		// The quotient is below 0 and no whole number: down is away from 0.
		q, _ = nat.Add(q, []uint64{1})
		r, _ = nat.Sub(b.Mag, r)
	}
	return signed(a.Neg != b.Neg, q), signed(b.Neg, r), api.OK
}

// Text: the decimal digits, - in front below 0.
func Text(a api.Whole) (string, api.Errno) {
	if !Form(a) {
		return "", api.ErrForm
	}
	digits, _ := nat.Text(a.Mag)
	if a.Neg {
		return "-" + digits, api.OK
	}
	return digits, api.OK
}

// Read: the number whose Text is s.
func Read(s string) (api.Whole, api.Errno) {
	if len(s) > api.MaxText {
		return api.Whole{}, api.ErrLong
	}
	digits, neg := strings.CutPrefix(s, "-")
	mag, e := nat.Read(digits)
	if e != api.OK {
		return api.Whole{}, e
	}
	if neg && len(mag) == 0 {
		return api.Whole{}, api.ErrText
	}
	return signed(neg, mag), api.OK
}

// signed answers the number of this sign and magnitude; 0 has no sign. It keeps mag.
func signed(neg bool, mag []uint64) api.Whole {
	return api.Whole{Neg: neg && len(mag) > 0, Mag: mag}
}

func add(a, b api.Whole) api.Whole {
	if a.Neg == b.Neg {
		mag, _ := nat.Add(a.Mag, b.Mag)
		return signed(a.Neg, mag)
	}
	if c, _ := nat.Cmp(a.Mag, b.Mag); c < 0 {
		a, b = b, a
	}
	mag, _ := nat.Sub(a.Mag, b.Mag)
	return signed(a.Neg, mag)
}
