package tighten_test

import (
	"encoding/binary"
	"math/big"
	"slices"
	"strings"
	"testing"

	"tableau/api"
	"tableau/stack"
	"tableau/text"
)

// toInt: the number of these limbs, by the library's own reckoning.
func toInt(a []uint64) *big.Int {
	var bytes []byte
	for _, w := range slices.Backward(a) {
		bytes = binary.BigEndian.AppendUint64(bytes, w)
	}
	return new(big.Int).SetBytes(bytes)
}

// limbs: the magnitude's limbs in form.
func limbs(n *big.Int) []uint64 {
	var a []uint64
	n = new(big.Int).Abs(n)
	for n.Sign() != 0 {
		a = append(a, new(big.Int).And(n, new(big.Int).SetUint64(1<<64-1)).Uint64())
		n.Rsh(n, 64)
	}
	return a
}

// toBig: the number by the library, against which tighten is held.
func toBig(r api.Rat) *big.Rat {
	num := toInt(r.Num)
	if r.Neg {
		num.Neg(num)
	}
	return new(big.Rat).SetFrac(num, toInt(r.Den))
}

// fromBig: the library's number in form; it keeps its own in lowest terms.
func fromBig(n *big.Rat) api.Rat {
	return api.Rat{Neg: n.Sign() < 0, Num: limbs(n.Num()), Den: limbs(n.Denom())}
}

func sameRat(a, b api.Rat) bool {
	return a.Neg == b.Neg && slices.Equal(a.Num, b.Num) && slices.Equal(a.Den, b.Den)
}

// read: the model of a text whose lines are cut by /, with end as the last one; a fraction's / stands between digits.
func read(t *testing.T, s string) api.Model {
	t.Helper()
	m, at, e := text.Parse(strings.ReplaceAll(s, " / ", "\n") + "\nend\n")
	if e != api.OK {
		t.Fatalf("%q is no model: %d at %d", s, e, at)
	}
	return m
}

// fresh: a stack for the model, without steps.
func fresh(m api.Model) *stack.Stack {
	s, _ := stack.New(len(m.Cols), len(m.Rows))
	return s
}
