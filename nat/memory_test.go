package nat_test

import (
	"slices"
	"testing"

	"tableau/nat"
)

const mark = 0xABCDEF0123456789

// guarded: the list with spare room behind it that holds marks.
func guarded(a []uint64) []uint64 {
	room := append(slices.Clone(a), mark, mark, mark)
	return room[:len(a)]
}

// withSpare: a list with its spare room.
func withSpare(a []uint64) []uint64 { return a[:cap(a)] }

func scribble(a []uint64) {
	for i := range withSpare(a) {
		withSpare(a)[i] ^= mark
	}
}

// calls: each call that is handed lists and answers some.
func calls() map[string]func(a, b []uint64) [][]uint64 {
	return map[string]func(a, b []uint64) [][]uint64{
		"Add": func(a, b []uint64) [][]uint64 { l, _ := nat.Add(a, b); return [][]uint64{l} },
		"Sub": func(a, b []uint64) [][]uint64 { l, _ := nat.Sub(a, b); return [][]uint64{l} },
		"Mul": func(a, b []uint64) [][]uint64 { l, _ := nat.Mul(a, b); return [][]uint64{l} },
		"DivMod": func(a, b []uint64) [][]uint64 {
			q, r, _ := nat.DivMod(a, b)
			return [][]uint64{q, r}
		},
		"Gcd":   func(a, b []uint64) [][]uint64 { l, _ := nat.Gcd(a, b); return [][]uint64{l} },
		"Shl 0": func(a, b []uint64) [][]uint64 { l, _ := nat.Shl(a, 0); return [][]uint64{l} },
		"Shl 7": func(a, b []uint64) [][]uint64 { l, _ := nat.Shl(a, 7); return [][]uint64{l} },
		"none": func(a, b []uint64) [][]uint64 {
			nat.Form(a)
			nat.Cmp(a, b)
			nat.Text(a)
			return nil
		},
	}
}

func copies(l [][]uint64) [][]uint64 {
	var out [][]uint64
	for _, a := range l {
		out = append(out, slices.Clone(a))
	}
	return out
}

func alike(a, b [][]uint64) bool { return slices.EqualFunc(a, b, slices.Equal) }

// TestMemory: arguments and their spare room stay as they are, and no answer shares memory with an argument, with another list, or with an earlier answer.
func TestMemory(t *testing.T) {
	lists := [][]uint64{nil, {}, {1}, {7}, {top}, {6, 4}, {0, 1}, {top, top}, {1, 2, 3, 4, 5}, {0, 0, 0, 9}, {5, 0}, filled(90), filled(100)}
	for name, call := range calls() {
		for _, x := range lists {
			for _, y := range lists {
				checkMemory(t, name, call, guarded(x), guarded(y))
				both := guarded(x)
				checkMemory(t, name+" of one list twice", call, both, both)
			}
		}
	}
}

func checkMemory(t *testing.T, name string, call func(a, b []uint64) [][]uint64, a, b []uint64) {
	t.Helper()
	before := copies([][]uint64{withSpare(a), withSpare(b)})
	first := call(a, b)
	if !alike(before, [][]uint64{withSpare(a), withSpare(b)}) {
		t.Fatalf("%s changes what it is handed, or its spare room: %v", name, before)
	}
	want := copies(first)
	for i := range first {
		scribble(first[i])
		for k := i + 1; k < len(first); k++ {
			if !slices.Equal(first[k], want[k]) {
				t.Fatalf("%s: answers %d and %d share memory at %v", name, i, k, before)
			}
		}
	}
	if !alike(before, [][]uint64{withSpare(a), withSpare(b)}) {
		t.Fatalf("%s: an answer shares memory with what was handed in: %v", name, before)
	}
	second := call(a, b)
	if !alike(second, want) {
		t.Fatalf("%s: an answer depends on an earlier one at %v", name, before)
	}
	for i := range first {
		scribble(first[i])
	}
	scribble(a)
	if !alike(second, want) {
		t.Fatalf("%s: an answer shares memory with an argument or an earlier answer at %v", name, before)
	}
}
