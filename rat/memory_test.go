package rat_test

import (
	"slices"
	"testing"

	"tableau/api"
	"tableau/rat"
)

const (
	mark   = 0xABCDEF0123456789
	scrawl = 0x5C2A375C2A375C2A
)

// guarded: the list with spare room behind it that holds marks.
func guarded(a []uint64) []uint64 {
	room := append(slices.Clone(a), mark, mark, mark)
	return room[:len(a)]
}

func guardedRat(r api.Rat) api.Rat {
	return api.Rat{Neg: r.Neg, Num: guarded(r.Num), Den: guarded(r.Den)}
}

// withSpare: a list with its spare room.
func withSpare(a []uint64) []uint64 { return a[:cap(a)] }

func scribble(lists [][]uint64) {
	for _, a := range lists {
		for i := range withSpare(a) {
			withSpare(a)[i] = scrawl
		}
	}
}

// lists: all limbs of these numbers.
func lists(numbers ...api.Rat) [][]uint64 {
	var out [][]uint64
	for _, r := range numbers {
		out = append(out, r.Num, r.Den)
	}
	return out
}

// copies: the lists as they stand now, without spare room.
func copies(l [][]uint64) [][]uint64 {
	var out [][]uint64
	for _, a := range l {
		out = append(out, slices.Clone(a))
	}
	return out
}

func alike(a, b [][]uint64) bool { return slices.EqualFunc(a, b, slices.Equal) }

// calls: each call, with all lists that it answers.
func calls() map[string]func(a, b api.Rat) [][]uint64 {
	return map[string]func(a, b api.Rat) [][]uint64{
		"Add": func(a, b api.Rat) [][]uint64 { r, _ := rat.Add(a, b); return lists(r) },
		"Sub": func(a, b api.Rat) [][]uint64 { r, _ := rat.Sub(a, b); return lists(r) },
		"Mul": func(a, b api.Rat) [][]uint64 { r, _ := rat.Mul(a, b); return lists(r) },
		"Quo": func(a, b api.Rat) [][]uint64 { r, _ := rat.Quo(a, b); return lists(r) },
		"Neg": func(a, b api.Rat) [][]uint64 { r, _ := rat.Neg(a); return lists(r) },
		"Make": func(a, b api.Rat) [][]uint64 {
			r, _ := rat.Make(api.Whole{Neg: a.Neg, Mag: a.Num}, api.Whole{Neg: b.Neg, Mag: b.Num})
			return lists(r)
		},
		"Make by a denominator": func(a, b api.Rat) [][]uint64 {
			r, _ := rat.Make(api.Whole{Neg: a.Neg, Mag: a.Num}, api.Whole{Mag: b.Den})
			return lists(r)
		},
		"Floor": func(a, b api.Rat) [][]uint64 { w, _ := rat.Floor(a); return [][]uint64{w.Mag} },
		"Of":    func(a, b api.Rat) [][]uint64 { return lists(rat.Of(0), rat.Of(1), rat.Of(1), rat.Of(-7)) },
		"Read": func(a, b api.Rat) [][]uint64 {
			s, _ := rat.Text(a)
			r, _ := rat.Read(s)
			return lists(r)
		},
		"none": func(a, b api.Rat) [][]uint64 {
			rat.Form(a)
			rat.Cmp(a, b)
			rat.Sign(a)
			return nil
		},
	}
}

// TestMemory: arguments and their spare room stay as they are, and no answer shares memory with an argument, with another list, or with an earlier answer.
func TestMemory(t *testing.T) {
	// Among them all cases where a sum or a product is one of its arguments.
	some := append([]api.Rat{frac(0, 1), frac(1, 1), frac(-1, 1), frac(7, 1), frac(1, 7), frac(-3, 2), frac(2, 3), frac(5, 6), frac(1, 6)}, badNumbers()...)
	some = append(some, numbers()[80:100]...)
	for name, call := range calls() {
		for _, x := range some {
			for _, y := range some {
				checkMemory(t, name, call, guardedRat(x), guardedRat(y))
			}
			both := guardedRat(x)
			checkMemory(t, name+" of one number twice", call, both, both)
			// One list for all, as 1/1 may be.
			one := guarded(x.Num)
			shared := api.Rat{Neg: x.Neg, Num: one, Den: one}
			checkMemory(t, name+" of one list", call, shared, shared)
		}
	}
}

func checkMemory(t *testing.T, name string, call func(a, b api.Rat) [][]uint64, a, b api.Rat) {
	t.Helper()
	var handed [][]uint64
	for _, l := range lists(a, b) {
		handed = append(handed, withSpare(l))
	}
	before := copies(handed)
	first := call(a, b)
	want := copies(first)
	if !alike(before, handed) {
		t.Fatalf("%s changes what it is handed, or its spare room: %v", name, before)
	}
	for i := range first {
		scribble(first[i : i+1])
		if !alike(first[i+1:], want[i+1:]) {
			t.Fatalf("%s: two lists of the answer share memory at %v", name, before)
		}
	}
	if !alike(before, handed) {
		t.Fatalf("%s: an answer shares memory with what was handed in: %v", name, before)
	}
	second := call(a, b)
	if !alike(second, want) {
		t.Fatalf("%s: an answer depends on an earlier one at %v", name, before)
	}
	scribble(first)
	scribble(handed)
	if !alike(second, want) {
		t.Fatalf("%s: an answer shares memory with an argument or an earlier answer at %v", name, before)
	}
}
