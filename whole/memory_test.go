package whole_test

import (
	"slices"
	"testing"

	"tableau/api"
	"tableau/whole"
)

const mark = 0xABCDEF0123456789

// guarded: the number with spare room behind its limbs that holds marks.
func guarded(a api.Whole) api.Whole {
	room := append(slices.Clone(a.Mag), mark, mark, mark)
	return api.Whole{Neg: a.Neg, Mag: room[:len(a.Mag)]}
}

func withSpare(a api.Whole) []uint64 { return a.Mag[:cap(a.Mag)] }

func scribble(a api.Whole) {
	for i := range withSpare(a) {
		withSpare(a)[i] ^= mark
	}
}

// calls: each call that is handed numbers.
func calls() map[string]func(a, b api.Whole) []api.Whole {
	return map[string]func(a, b api.Whole) []api.Whole{
		"Add": func(a, b api.Whole) []api.Whole { n, _ := whole.Add(a, b); return []api.Whole{n} },
		"Sub": func(a, b api.Whole) []api.Whole { n, _ := whole.Sub(a, b); return []api.Whole{n} },
		"Mul": func(a, b api.Whole) []api.Whole { n, _ := whole.Mul(a, b); return []api.Whole{n} },
		"Neg": func(a, b api.Whole) []api.Whole { n, _ := whole.Neg(a); return []api.Whole{n} },
		"Divide": func(a, b api.Whole) []api.Whole {
			q, r, _ := whole.Divide(a, b)
			return []api.Whole{q, r}
		},
		"none": func(a, b api.Whole) []api.Whole {
			whole.Form(a)
			whole.Cmp(a, b)
			whole.Text(a)
			return nil
		},
	}
}

func copies(l []api.Whole) []api.Whole {
	var out []api.Whole
	for _, a := range l {
		out = append(out, api.Whole{Neg: a.Neg, Mag: slices.Clone(a.Mag)})
	}
	return out
}

func alike(a, b []api.Whole) bool {
	return slices.EqualFunc(a, b, func(x, y api.Whole) bool {
		return x.Neg == y.Neg && slices.Equal(x.Mag, y.Mag)
	})
}

// TestMemory: arguments and their spare room stay as they are, and no answer shares memory with an argument, with another number, or with an earlier answer.
func TestMemory(t *testing.T) {
	for name, call := range calls() {
		for _, x := range append(numbers(), badNumbers()...) {
			for _, y := range append(numbers(), badNumbers()...) {
				checkMemory(t, name, call, guarded(x), guarded(y))
			}
			both := guarded(x)
			checkMemory(t, name+" of one number twice", call, both, both)
		}
	}
}

func checkMemory(t *testing.T, name string, call func(a, b api.Whole) []api.Whole, a, b api.Whole) {
	t.Helper()
	x, y := slices.Clone(withSpare(a)), slices.Clone(withSpare(b))
	kept := func() bool { return slices.Equal(x, withSpare(a)) && slices.Equal(y, withSpare(b)) }
	first := call(a, b)
	if !kept() {
		t.Fatalf("%s changes what it is handed, or its spare room: %v, %v", name, x, y)
	}
	want := copies(first)
	for i := range first {
		scribble(first[i])
		if !alike(first[i+1:], want[i+1:]) {
			t.Fatalf("%s: two answers share memory at %v, %v", name, x, y)
		}
	}
	if !kept() {
		t.Fatalf("%s: an answer shares memory with what was handed in: %v, %v", name, x, y)
	}
	second := call(a, b)
	if !alike(second, want) {
		t.Fatalf("%s: an answer depends on an earlier one at %v, %v", name, x, y)
	}
	for i := range first {
		scribble(first[i])
	}
	scribble(a)
	if !alike(second, want) {
		t.Fatalf("%s: an answer shares memory with an argument or an earlier answer at %v, %v", name, x, y)
	}
}
