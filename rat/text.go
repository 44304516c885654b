package rat

import (
	"strings"

	"tableau/api"
	"tableau/nat"
	"tableau/whole"
)

const bar = "/"

// Text: the numerator's digits, - in front below 0, and, if the denominator isn't 1, / and its digits.
func Text(r api.Rat) (string, api.Errno) {
	if !Form(r) {
		return "", api.ErrForm
	}
	num, _ := whole.Text(numerator(r))
	if isOne(r.Den) {
		return num, api.OK
	}
	den, _ := nat.Text(r.Den)
	return num + bar + den, api.OK
}

// Read: the number whose Text is s.
func Read(s string) (api.Rat, api.Errno) {
	if len(s) > api.MaxText {
		return api.Rat{}, api.ErrLong
	}
	before, behind, cut := strings.Cut(s, bar)
	num, e := whole.Read(before)
	if e != api.OK {
		return api.Rat{}, e
	}
	den := one()
	if cut {
		den, e = readDen(behind)
	}
	r := signed(num.Neg, num.Mag, den)
	if e != api.OK || !Form(r) {
		return api.Rat{}, api.ErrText
	}
	return r, api.OK
}

// readDen reads what stands behind the bar, where a 1 is never written.
func readDen(s string) ([]uint64, api.Errno) {
	den, e := nat.Read(s)
	if isOne(den) {
		return nil, api.ErrText
	}
	return den, e
}
