package guard

import (
	"strconv"

	"tableau/api"
)

const (
	mark   = 0x2BCDEF0123456789
	scrawl = 0x5C2A375C2A375C2A
)

// Limbs answers a copy with marks in spare room behind it.
func Limbs(a []uint64) []uint64 { return padded(a, mark) }

// Rat answers a copy with marks in spare room behind each list, as do those below.
func Rat(r api.Rat) api.Rat {
	return api.Rat{Neg: r.Neg, Num: Limbs(r.Num), Den: Limbs(r.Den)}
}

// Rats: see Rat.
func Rats(x []api.Rat) []api.Rat {
	out := padded(x, Rat(api.Rat{}))
	for i, r := range x {
		out[i] = Rat(r)
	}
	return out
}

// Matrix: see Rat.
func Matrix(a [][]api.Rat) [][]api.Rat {
	out := padded(a, Rats(nil))
	for i, row := range a {
		out[i] = Rats(row)
	}
	return out
}

// Terms: see Rat.
func Terms(v []api.Term) []api.Term {
	out := padded(v, api.Term{Col: mark})
	for i, t := range v {
		out[i] = api.Term{Col: t.Col, A: Rat(t.A)}
	}
	return out
}

// Limbs tells one list.
func (b *Book) Limbs(a []uint64) {
	note(b, a, func(w uint64) string { return strconv.FormatUint(w, 10) }, scrawl)
}

// Rat tells the lists of a number.
func (b *Book) Rat(r api.Rat) {
	b.Limbs(r.Num)
	b.Limbs(r.Den)
}

// Rats tells the list, and those of its numbers.
func (b *Book) Rats(x []api.Rat) {
	for _, r := range note(b, x, ratText, api.Rat{Neg: true}) {
		b.Rat(r)
	}
}

// Matrix tells the list, and those of its rows.
func (b *Book) Matrix(a [][]api.Rat) {
	for _, row := range note(b, a, func(row []api.Rat) string { return strconv.Itoa(len(row)) }, make([]api.Rat, 1000)) {
		b.Rats(row)
	}
}

// Terms tells the list, and those of its terms.
func (b *Book) Terms(v []api.Term) {
	text := func(t api.Term) string { return strconv.Itoa(t.Col) + ":" + ratText(t.A) }
	for _, t := range note(b, v, text, api.Term{Col: scrawl}) {
		b.Rat(t.A)
	}
}

func ratText(r api.Rat) string {
	return strconv.FormatBool(r.Neg) + "," + strconv.Itoa(len(r.Num)) + "," + strconv.Itoa(len(r.Den))
}
