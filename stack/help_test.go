package stack_test

import (
	"slices"
	"strings"
	"testing"

	"tableau/api"
	"tableau/sample"
	"tableau/stack"
	"tableau/text"
)

func sameRat(a, b api.Rat) bool {
	return a.Neg == b.Neg && slices.Equal(a.Num, b.Num) && slices.Equal(a.Den, b.Den)
}

func sameRats(x, y []api.Rat) bool { return slices.EqualFunc(x, y, sameRat) }

func samePoint(p, q api.Point) bool {
	return sameRats(p.X, q.X) && sameRats(p.Y, q.Y) && sameRats(p.Z, q.Z)
}

func sameBasis(b, c api.Basis) bool {
	return slices.Equal(b.Cols, c.Cols) && slices.Equal(b.Rows, c.Rows)
}

func sameCert(c, d api.Cert) bool {
	return sameRats(c.RowLo, d.RowLo) && sameRats(c.RowHi, d.RowHi) && sameRats(c.ColLo, d.ColLo) && sameRats(c.ColHi, d.ColHi)
}

// nums: whole numbers.
func nums(l ...int) []api.Rat {
	var x []api.Rat
	for _, n := range l {
		x = append(x, sample.Frac(n, 1))
	}
	return x
}

// several: n numbers of each kind, long ones too, beginning at one of them.
func several(n, first int) []api.Rat {
	var x []api.Rat
	for i := range n {
		x = append(x, sample.Rats()[(i+first)%len(sample.Rats())])
	}
	return x
}

// kinds: n statuses, of each kind in its turn.
func kinds(n, first int) []api.Status {
	var list []api.Status
	for i := range n {
		list = append(list, api.Status((i+first)%4))
	}
	return list
}

// made: a stack of that size, without steps.
func made(t *testing.T, cols, rows int) *stack.Stack {
	t.Helper()
	s, e := stack.New(cols, rows)
	if s == nil || e != api.OK {
		t.Fatalf("P17.1: New(%d, %d): %v, %d", cols, rows, s, e)
	}
	return s
}

// read: the model of a text whose lines are cut by /, with end as the last one; a fraction's / stands between digits.
func read(t *testing.T, s string) api.Model {
	t.Helper()
	m, at, e := text.Parse(strings.ReplaceAll(s, " / ", "\n") + "\nend\n")
	if e != api.OK {
		t.Fatalf("%q is no model: %d at %d", s, e, at)
	}
	return m
}

// An input is what the five methods are handed.
type input struct {
	x, d []api.Rat
	p, q api.Point // Dual's, and Basis's
	b    api.Basis
	c    api.Cert
}

// fitting: an input for so many columns and rows.
func fitting(n, k int) input {
	p := api.Point{X: several(n, 2), Y: several(k, 3), Z: several(n, 4)}
	return input{
		x: several(n, 0), d: several(n, 1), p: p, q: api.Point{X: several(n, 5), Y: several(k, 6), Z: several(n, 7)},
		b: api.Basis{Cols: kinds(n, 1), Rows: kinds(k, 0)},
		c: api.Cert{RowLo: several(k, 1), RowHi: several(k, 2), ColLo: several(n, 3), ColHi: several(n, 6)},
	}
}

// lists: the lists of numbers of an input, to be changed in place, with the number of the method that is handed it.
func (in *input) lists() ([]*[]api.Rat, []int) {
	return []*[]api.Rat{&in.x, &in.d, &in.p.X, &in.p.Y, &in.p.Z, &in.q.X, &in.q.Y, &in.q.Z, &in.c.RowLo, &in.c.RowHi, &in.c.ColLo, &in.c.ColHi},
		[]int{0, 1, 2, 2, 2, 3, 3, 3, 4, 4, 4, 4}
}

// An output is what they answer.
type output struct {
	input
	errors [5]api.Errno
}

func ask(s *stack.Stack, in input) output {
	var out output
	out.x, out.errors[0] = s.Primal(in.x)
	out.d, out.errors[1] = s.Lift(in.d)
	out.p, out.errors[2] = s.Dual(in.p)
	out.b, out.q, out.errors[3] = s.Basis(in.b, in.q)
	out.c, out.errors[4] = s.Cert(in.c)
	return out
}

// checkOutput: each method answers this error, with nothing beside it, or this.
func checkOutput(t *testing.T, name string, got output, want input, errors [5]api.Errno) {
	t.Helper()
	lists, which := want.lists()
	for i, list := range lists {
		if errors[which[i]] != api.OK {
			*list = nil
		}
	}
	if errors[3] != api.OK {
		want.b = api.Basis{}
	}
	if got.errors != errors || !sameRats(got.x, want.x) || !sameRats(got.d, want.d) || !samePoint(got.p, want.p) || !samePoint(got.q, want.q) || !sameBasis(got.b, want.b) || !sameCert(got.c, want.c) {
		t.Errorf("%s: %v, want %v, %v", name, got, want, errors)
	}
}
