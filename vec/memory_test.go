package vec_test

import (
	"testing"

	"tableau/api"
	"tableau/guard"
	"tableau/vec"
)

// calls: each call, with all lists that it answers.
func calls() map[string]func(b *guard.Book, v []api.Term, r api.Rat, w []api.Term, x []api.Rat) {
	return map[string]func(b *guard.Book, v []api.Term, r api.Rat, w []api.Term, x []api.Rat){
		"At": func(b *guard.Book, v []api.Term, r api.Rat, w []api.Term, x []api.Rat) {
			for _, col := range []int{0, 2, 7} {
				a, _ := vec.At(v, col)
				b.Rat(a)
			}
		},
		"Plus": func(b *guard.Book, v []api.Term, r api.Rat, w []api.Term, x []api.Rat) {
			p, _ := vec.Plus(v, r, w)
			b.Terms(p)
		},
		"Scale": func(b *guard.Book, v []api.Term, r api.Rat, w []api.Term, x []api.Rat) {
			s, _ := vec.Scale(r, v)
			b.Terms(s)
		},
		"Dot": func(b *guard.Book, v []api.Term, r api.Rat, w []api.Term, x []api.Rat) {
			d, _ := vec.Dot(v, x)
			b.Rat(d)
		},
		"Dense": func(b *guard.Book, v []api.Term, r api.Rat, w []api.Term, x []api.Rat) {
			x, _ = vec.Dense(v, 6)
			b.Rats(x)
		},
		"Sparse": func(b *guard.Book, v []api.Term, r api.Rat, w []api.Term, x []api.Rat) {
			s, _ := vec.Sparse(x)
			b.Terms(s)
		},
		"none": func(b *guard.Book, v []api.Term, r api.Rat, w []api.Term, x []api.Rat) { vec.Form(v) },
	}
}

// TestMemory: with lists that cancel out, stand beside one another and follow one another, with factors that change nothing, and with wrong ones.
func TestMemory(t *testing.T) {
	some := append(lists()[:11], badLists()[:20]...)
	numbers := append(factors(), badNumbers()[:5]...)
	for name, call := range calls() {
		for i, v := range some {
			for k, w := range some {
				r := numbers[(i+k)%len(numbers)]
				checkMemory(t, name, call, v, r, w)
			}
			for _, r := range numbers {
				checkMemory(t, name, call, v, r, v)
			}
		}
	}
}

func checkMemory(t *testing.T, name string, call func(b *guard.Book, v []api.Term, r api.Rat, w []api.Term, x []api.Rat), v []api.Term, r api.Rat, w []api.Term) {
	t.Helper()
	x := []api.Rat{r, frac(1, 1), zero(), r, frac(2, 3), zero()}
	v, r, w, x = guard.Terms(v), guard.Rat(r), guard.Terms(w), guard.Rats(x)
	handed := func(b *guard.Book) {
		b.Terms(v)
		b.Rat(r)
		b.Terms(w)
		b.Rats(x)
	}
	if fault := guard.Fault(handed, func(b *guard.Book) { call(b, v, r, w, x) }); fault != "" {
		t.Errorf("%s: %s", name, fault)
	}
}

// TestOneList: the same list twice, in two places of one call.
func TestOneList(t *testing.T) {
	for _, r := range factors() {
		v := guard.Terms(lists()[8])
		fault := guard.Fault(func(b *guard.Book) { b.Terms(v) }, func(b *guard.Book) {
			p, _ := vec.Plus(v, r, v)
			b.Terms(p)
		})
		if fault != "" {
			t.Errorf("Plus of one list twice: %s", fault)
		}
	}
}
