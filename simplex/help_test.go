package simplex_test

import (
	"encoding/binary"
	"math/big"
	"slices"
	"strings"
	"testing"

	"tableau/api"
	"tableau/sample"
	"tableau/text"
)

// toInt: the number of these limbs, by the library's own reckoning.
func toInt(a []uint64) *big.Int {
	var bytes []byte
	for _, w := range slices.Backward(a) {
		bytes = binary.BigEndian.AppendUint64(bytes, w)
	}
	return new(big.Int).SetBytes(bytes)
}

// limbs: the magnitude's limbs in form.
func limbs(n *big.Int) []uint64 {
	var a []uint64
	n = new(big.Int).Abs(n)
	for n.Sign() != 0 {
		a = append(a, new(big.Int).And(n, new(big.Int).SetUint64(1<<64-1)).Uint64())
		n.Rsh(n, 64)
	}
	return a
}

// toBig: the number by the library, against which simplex is held.
func toBig(r api.Rat) *big.Rat {
	num := toInt(r.Num)
	if r.Neg {
		num.Neg(num)
	}
	return new(big.Rat).SetFrac(num, toInt(r.Den))
}

// fromBig: the library's number in form; it keeps its own in lowest terms.
func fromBig(n *big.Rat) api.Rat {
	return api.Rat{Neg: n.Sign() < 0, Num: limbs(n.Num()), Den: limbs(n.Denom())}
}

func sameRat(a, b api.Rat) bool {
	return a.Neg == b.Neg && slices.Equal(a.Num, b.Num) && slices.Equal(a.Den, b.Den)
}

// formed: are these n numbers, all in form?
func formed(list []api.Rat, n int) bool {
	for _, r := range list {
		if toInt(r.Den).Sign() == 0 || !sameRat(fromBig(toBig(r)), r) {
			return false
		}
	}
	return len(list) == n
}

// number: the one of this text, such as -7/2.
func number(s string) api.Rat {
	n, is := new(big.Rat).SetString(s)
	if !is {
		panic(s + " is no number")
	}
	return fromBig(n)
}

// nums: whole numbers.
func nums(l ...int) []api.Rat {
	var x []api.Rat
	for _, n := range l {
		x = append(x, sample.Frac(n, 1))
	}
	return x
}

// filled: so many times one thing.
func filled[T any](n int, r T) []T {
	x := make([]T, n)
	for i := range x {
		x[i] = r
	}
	return x
}

// read: the model of a text whose lines are cut by /, with end as the last one; a fraction's / stands between digits.
func read(t *testing.T, s string) api.Model {
	t.Helper()
	m, at, e := text.Parse(strings.ReplaceAll(s, " / ", "\n") + "\nend\n")
	if e != api.OK {
		t.Fatalf("%q is no model: %d at %d", s, e, at)
	}
	return m
}

// of: the basis with these statuses, those of the n columns first.
func of(n int, list ...api.Status) api.Basis { return api.Basis{Cols: list[:n], Rows: list[n:]} }

// slackOf: all rows Basic, each column at a bound.
func slackOf(m api.Model) api.Basis {
	var b api.Basis
	for _, c := range m.Cols {
		switch {
		case c.Lo.Inf == 0:
			b.Cols = append(b.Cols, api.Lower)
		case c.Hi.Inf == 0:
			b.Cols = append(b.Cols, api.Upper)
		default:
			b.Cols = append(b.Cols, api.Free)
		}
	}
	b.Rows = filled(len(m.Rows), api.Basic)
	return b
}

// copied: the same answer with lists of its own, but for limbs.
func copied(a api.Answer) api.Answer {
	for _, list := range rats(&a) {
		*list = slices.Clone(*list)
	}
	for _, list := range statuses(&a) {
		*list = slices.Clone(*list)
	}
	return a
}

// rats: the lists of numbers of an answer, to be changed in place.
func rats(a *api.Answer) []*[]api.Rat {
	return []*[]api.Rat{&a.Point.X, &a.Point.Y, &a.Point.Z, &a.Cert.RowLo, &a.Cert.RowHi, &a.Cert.ColLo, &a.Cert.ColHi, &a.Ray.X, &a.Ray.D}
}

// statuses: the lists of statuses of an answer.
func statuses(a *api.Answer) []*[]api.Status { return []*[]api.Status{&a.Basis.Cols, &a.Basis.Rows} }

func sameAnswer(a, b api.Answer) bool {
	same := a.Status == b.Status && sameRat(a.Value, b.Value)
	for i, list := range rats(&a) {
		same = same && slices.EqualFunc(*list, *rats(&b)[i], sameRat)
	}
	for i, list := range statuses(&a) {
		same = same && slices.Equal(*list, *statuses(&b)[i])
	}
	return same
}
