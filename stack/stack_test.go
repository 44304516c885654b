package stack_test

import (
	"math"
	"slices"
	"testing"

	"tableau/api"
	"tableau/sample"
	"tableau/stack"
	"tableau/trial"
)

// TestNew: sizes at each limit, beyond it, and below 0.
func TestNew(t *testing.T) {
	sizes := []int{math.MinInt, -65, -1, 0, 1, 2, 63, 64, 65, 128, math.MaxInt}
	for _, cols := range sizes {
		for _, rows := range sizes {
			s, e := stack.New(cols, rows)
			if cols < 0 || cols > 64 || rows < 0 || rows > 64 {
				if s != nil || e != api.ErrArg {
					t.Errorf("P17.1: New(%d, %d) = %v, %d", cols, rows, s, e)
				}
				continue
			}
			if s == nil || e != api.OK {
				t.Fatalf("P17.1: New(%d, %d) = %v, %d", cols, rows, s, e)
			}
			if a, b, n, k := s.Size(); a != cols || b != rows || n != cols || k != rows || s.Tightened() {
				t.Errorf("P17.1: of New(%d, %d): Size = %d, %d, %d, %d, Tightened = %v", cols, rows, a, b, n, k, s.Tightened())
			}
		}
	}
}

// TestExample: that of the chapter.
func TestExample(t *testing.T) {
	s := made(t, 2, 1)
	if a, b, n, k := s.Size(); a != 2 || b != 1 || n != 2 || k != 1 {
		t.Errorf("P17.1: Size = %d, %d, %d, %d", a, b, n, k)
	}
	if x, e := s.Primal(nums(1, 2)); e != api.OK || !sameRats(x, nums(1, 2)) {
		t.Errorf("P17.2: Primal = %v, %d", x, e)
	}
	if x, e := s.Primal(nums(1)); e != api.ErrUnlike || x != nil {
		t.Errorf("P17.3: Primal of one number = %v, %d", x, e)
	}
	if s, e := stack.New(65, 0); s != nil || e != api.ErrArg {
		t.Errorf("P17.1: New(65, 0) = %v, %d", s, e)
	}
}

func all(e api.Errno) [5]api.Errno { return [5]api.Errno{e, e, e, e, e} }

// TestNil: no stack: ErrNone, whatever is handed in.
func TestNil(t *testing.T) {
	var s *stack.Stack
	bad := input{x: []api.Rat{{}}, d: []api.Rat{{}}, p: api.Point{Y: []api.Rat{{}}}, b: api.Basis{Cols: []api.Status{9}}, c: api.Cert{ColHi: []api.Rat{{}}}}
	for _, in := range []input{{}, fitting(0, 0), fitting(1, 1), fitting(3, 2), bad} {
		checkOutput(t, "P17.1: no stack", ask(s, in), input{}, all(api.ErrNone))
	}
	if a, b, n, k := s.Size(); a != 0 || b != 0 || n != 0 || k != 0 || s.Tightened() {
		t.Errorf("P17.1: of no stack: Size = %d, %d, %d, %d, Tightened = %v", a, b, n, k, s.Tightened())
	}
	s.Push(stack.Row{})
	if e := s.Fits(0, 0); e != api.ErrNone {
		t.Errorf("of no stack: Fits = %d", e)
	}
}

// TestNoSteps: what is handed in is answered, again and again.
func TestNoSteps(t *testing.T) {
	for _, size := range [][2]int{{0, 0}, {1, 0}, {0, 1}, {2, 1}, {3, 5}, {64, 64}} {
		s := made(t, size[0], size[1])
		for range 3 {
			checkOutput(t, "P17.2", ask(s, fitting(size[0], size[1])), fitting(size[0], size[1]), all(api.OK))
		}
	}
	empty := input{x: []api.Rat{}, p: api.Point{Y: []api.Rat{}}, b: api.Basis{Cols: []api.Status{}}, c: api.Cert{RowLo: []api.Rat{}}}
	checkOutput(t, "P17.2: empty lists", ask(made(t, 0, 0), empty), input{}, all(api.OK))
}

// TestLengths: each list of every other length is ErrUnlike of just the method that is handed it.
func TestLengths(t *testing.T) {
	for _, size := range [][2]int{{0, 0}, {1, 0}, {0, 1}, {2, 1}, {3, 5}, {64, 64}} {
		s := made(t, size[0], size[1])
		for length := range 67 {
			in := fitting(size[0], size[1])
			lists, which := in.lists()
			for i := range lists {
				in := fitting(size[0], size[1])
				lists, _ := in.lists()
				var errors [5]api.Errno
				if length != len(*lists[i]) {
					errors[which[i]] = api.ErrUnlike
				}
				*lists[i] = several(length, i)
				checkOutput(t, "P17.3, P17.4: a list of another length", ask(s, in), in, errors)
			}
			checkStatusLength(t, s, size, length)
		}
	}
}

func checkStatusLength(t *testing.T, s *stack.Stack, size [2]int, length int) {
	t.Helper()
	cols, rows := fitting(size[0], size[1]), fitting(size[0], size[1])
	cols.b.Cols, rows.b.Rows = kinds(length, 1), kinds(length, 0)
	for i, in := range []input{cols, rows} {
		var errors [5]api.Errno
		if length != size[i] {
			errors[3] = api.ErrUnlike
		}
		checkOutput(t, "P17.4: statuses of another length", ask(s, in), in, errors)
	}
}

// TestForms: a number, a status that is not in form, at each place of each list; with a list of another length beside it, too.
func TestForms(t *testing.T) {
	s := made(t, 3, 2)
	in := fitting(3, 2)
	lists, which := in.lists()
	for i, list := range lists {
		for place := range *list {
			for _, bad := range sample.BadRats() {
				in := fitting(3, 2)
				lists, _ := in.lists()
				(*lists[i])[place] = bad
				var errors [5]api.Errno
				errors[which[i]] = api.ErrForm
				checkOutput(t, "P17.3, P17.4: not in form", ask(s, in), in, errors)
				for k := range lists {
					if which[k] == which[i] {
						*lists[k] = append(*lists[k], *lists[k]...)
					}
				}
				checkOutput(t, "P17.3, P17.4: not in form and too long", ask(s, in), in, errors)
				*lists[i] = []api.Rat{bad}
				checkOutput(t, "P17.3, P17.4: too short and not in form", ask(s, in), in, errors)
			}
		}
	}
	for _, bad := range []api.Status{-1, 4, 5, math.MinInt, math.MaxInt} {
		for place := range 5 {
			in := fitting(3, 2)
			list := slices.Concat(in.b.Cols, in.b.Rows)
			list[place] = bad
			in.b = api.Basis{Cols: list[:3:3], Rows: list[3:]}
			checkOutput(t, "P17.4: a status", ask(s, in), in, [5]api.Errno{3: api.ErrForm})
			in.q.Y = nil
			checkOutput(t, "P17.4: a status and too short", ask(s, in), in, [5]api.Errno{3: api.ErrForm})
			in.b.Cols = append(in.b.Cols, 0)
			checkOutput(t, "P17.4: a status and too long", ask(s, in), in, [5]api.Errno{3: api.ErrForm})
		}
	}
}

// TestMemory: stacks without steps; those with steps are asked with the passes.
func TestMemory(t *testing.T) {
	for _, size := range [][2]int{{0, 0}, {1, 0}, {0, 1}, {2, 1}, {3, 5}, {64, 64}} {
		if fault := trial.StackFault(made(t, size[0], size[1])); fault != "" {
			t.Errorf("P17, memory: %s", fault)
		}
	}
}
