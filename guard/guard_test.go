package guard_test

import (
	"strings"
	"testing"

	"tableau/api"
	"tableau/guard"
)

func number(n uint64) api.Rat { return api.Rat{Num: []uint64{n}, Den: []uint64{1}} }

// TestFault: each way to break the rule is told, and keeping it is not.
func TestFault(t *testing.T) {
	// Each case keeps memory of its own: one that another has scribbled over would look unchanged.
	kept, anew := []api.Term{{Col: 1, A: number(5)}}, []api.Term{{}}
	for _, c := range []struct {
		name string
		call func(v []api.Term) []api.Term
		want string
	}{
		{"new", func(v []api.Term) []api.Term { return guard.Terms(v) }, ""},
		{"nothing", func(v []api.Term) []api.Term { return nil }, ""},
		{"a column", func(v []api.Term) []api.Term { v[0].Col++; return nil }, "changed"},
		{"a place", func(v []api.Term) []api.Term { v[0].A, v[1].A = v[1].A, v[0].A; return nil }, "changed"},
		{"a limb", func(v []api.Term) []api.Term { v[1].A.Den[0]++; return nil }, "changed"},
		{"spare terms", func(v []api.Term) []api.Term { _ = append(v, api.Term{}); return nil }, "changed"},
		{"spare limbs", func(v []api.Term) []api.Term { _ = append(v[1].A.Num, 1); return nil }, "changed"},
		{"the list", func(v []api.Term) []api.Term { return v }, "handed in"},
		{"its end", func(v []api.Term) []api.Term { return v[2:] }, "handed in"},
		{"shared limbs", func(v []api.Term) []api.Term { return []api.Term{v[1]} }, "handed in"},
		{"shared room", func(v []api.Term) []api.Term { return []api.Term{{A: api.Rat{Num: v[1].A.Num[1:]}}} }, "handed in"},
		{"twice", func(v []api.Term) []api.Term { a := number(7); return []api.Term{{A: a}, {A: a}} }, "two lists"},
		{"twice in room", func(v []api.Term) []api.Term {
			a := []uint64{7, 1}
			return []api.Term{{A: api.Rat{Num: a[:1], Den: a[1:]}}}
		}, "two lists"},
		{"earlier", func(v []api.Term) []api.Term { return kept }, "earlier"},
		{"written anew", func(v []api.Term) []api.Term {
			anew[0] = api.Term{Col: 1, A: number(5)}
			return anew
		}, "earlier"},
	} {
		v := guard.Terms([]api.Term{{Col: 0, A: number(1)}, {Col: 2, A: number(3)}})
		fault := guard.Fault(func(b *guard.Book) { b.Terms(v) }, func(b *guard.Book) { b.Terms(c.call(v)) })
		if (fault == "") != (c.want == "") || !strings.Contains(fault, c.want) {
			t.Errorf("%s: %q", c.name, fault)
		}
	}
}

// TestMatrix: rows and their numbers are lists, too.
func TestMatrix(t *testing.T) {
	for _, c := range []struct {
		name string
		call func(a [][]api.Rat) [][]api.Rat
		want string
	}{
		{"new", func(a [][]api.Rat) [][]api.Rat { return guard.Matrix(a) }, ""},
		{"a row's place", func(a [][]api.Rat) [][]api.Rat { a[0], a[1] = a[1], a[0]; return nil }, "changed"},
		{"a number", func(a [][]api.Rat) [][]api.Rat { a[1][0] = number(1); return nil }, "changed"},
		{"a row's room", func(a [][]api.Rat) [][]api.Rat { _ = append(a[0], number(1)); return nil }, "changed"},
		{"a row handed", func(a [][]api.Rat) [][]api.Rat { return [][]api.Rat{a[1]} }, "handed in"},
		{"a row twice", func(a [][]api.Rat) [][]api.Rat { r := []api.Rat{{}}; return [][]api.Rat{r, r} }, "two lists"},
		{"a number twice", func(a [][]api.Rat) [][]api.Rat { r := number(1); return [][]api.Rat{{r}, {r}} }, "two lists"},
	} {
		a := guard.Matrix([][]api.Rat{{number(1)}, {number(2)}})
		fault := guard.Fault(func(b *guard.Book) { b.Matrix(a) }, func(b *guard.Book) { b.Matrix(c.call(a)) })
		if (fault == "") != (c.want == "") || !strings.Contains(fault, c.want) {
			t.Errorf("%s: %q", c.name, fault)
		}
	}
}
