package trial

import (
	"strconv"

	"tableau/api"
	"tableau/guard"
	"tableau/rat"
	"tableau/sample"
	"tableau/stack"
)

// A Sweep is a pass.
type Sweep func(m api.Model, s *stack.Stack) (api.Model, api.Outcome, api.Errno)

// ErrorFault tells how a pass breaks the document's rules of errors: models that are not well formed, stacks of other sizes, and none; "" if it keeps them.
func ErrorFault(sweep Sweep) string {
	for _, b := range sample.Brokens() {
		n, k := len(b.M.Cols), len(b.M.Rows)
		for _, s := range []*stack.Stack{made(n, k), made(n+1, k), made(n, k+1), made(0, 0), nil} {
			if fault := refusedFault(sweep, b.M, s, b.E); fault != "" {
				return b.Name + ": " + fault
			}
		}
	}
	for i, m := range sample.Models() {
		if fault := sizeFault(sweep, m); fault != "" {
			return "model " + strconv.Itoa(i) + ": " + fault
		}
	}
	return ""
}

// sizeFault: it is R that must be as large as m, whatever M is.
func sizeFault(sweep Sweep, m api.Model) string {
	n, k := len(m.Cols), len(m.Rows)
	if fault := refusedFault(sweep, m, nil, api.ErrNone); fault != "" {
		return "no stack: " + fault
	}
	for _, size := range [][2]int{{n + 1, k}, {n - 1, k}, {n, k + 1}, {n, k - 1}, {n + 1, k - 1}, {n - 1, k + 1}, {k, n}, {0, 0}, {64, 64}} {
		if s := made(size[0], size[1]); s != nil && (size[0] != n || size[1] != k) {
			if fault := refusedFault(sweep, m, s, api.ErrUnlike); fault != "" {
				return "a stack of another size: " + fault
			}
		}
	}
	if s := made(n, k); k > 0 {
		s.Push(stack.Row{At: k - 1})
		if fault := refusedFault(sweep, m, s, api.ErrUnlike); fault != "" {
			return "a stack whose M alone is as large: " + fault
		}
	}
	if s := made(n, k+1); s != nil {
		s.Push(stack.Row{At: k})
		if _, _, e := sweep(m, s); e != api.OK {
			return "a stack whose R alone is as large: " + strconv.Itoa(int(e))
		}
	}
	return ""
}

// refusedFault: the pass answers this error, and nothing beside it, and leaves the stack as it is.
func refusedFault(sweep Sweep, m api.Model, s *stack.Stack, want api.Errno) string {
	before := Told(s)
	r, o, e := sweep(m, s)
	switch {
	case e != want:
		return "the error " + strconv.Itoa(int(e)) + ", want " + strconv.Itoa(int(want))
	case r.Offset.Neg || len(r.Offset.Num)+len(r.Offset.Den)+len(r.Cols)+len(r.Rows) > 0:
		return "a model beside the error"
	case o.Kind != 0 || len(o.D)+len(o.Cert.RowLo)+len(o.Cert.RowHi)+len(o.Cert.ColLo)+len(o.Cert.ColHi) > 0:
		return "an outcome beside the error"
	case Told(s) != before:
		return "the stack has changed"
	}
	return ""
}

// MemoryFault tells how a pass breaks the document's rule of memory at m, and at m with one list wherever two are alike; "" if it keeps it. Neither the model that is handed in nor what is answered, when it is overwritten, may change what the stack tells.
func MemoryFault(sweep Sweep, m api.Model) string {
	if fault := memoryFault(sweep, m, guard.Model(m)); fault != "" {
		return fault
	}
	if fault := memoryFault(sweep, m, shared(guard.Model(m))); fault != "" {
		return "with lists that are one: " + fault
	}
	return ""
}

// memoryFault hands in own, which is m in other memory.
func memoryFault(sweep Sweep, m, own api.Model) string {
	n, k := len(m.Cols), len(m.Rows)
	var stacks []*stack.Stack
	fault := guard.Fault(func(b *guard.Book) { b.Model(own) }, func(b *guard.Book) {
		s := made(n, k)
		r, o, _ := sweep(own, s)
		b.Model(r)
		b.Cert(o.Cert)
		b.Rats(o.D)
		stacks = append(stacks, s)
	})
	if fault != "" {
		return fault
	}
	s := made(n, k)
	sweep(guard.Model(m), s)
	for _, other := range stacks {
		if Told(other) != Told(s) {
			return "the stack shares memory with what was handed in, or with what was answered"
		}
	}
	return StackFault(s)
}

// StackFault tells how a stack's methods break the rule of memory; "" if they keep it.
func StackFault(s *stack.Stack) string {
	_, _, n, k := s.Size()
	x, b := guard.Rats(unlike(n, 1)), guard.Basis(api.Basis{Cols: turned(n, 1), Rows: turned(k, 2)})
	p := guard.Point(api.Point{X: unlike(n, 1), Y: unlike(k, -2), Z: unlike(n, 3)})
	c := guard.Cert(api.Cert{RowLo: unlike(k, 4), RowHi: unlike(k, 5), ColLo: unlike(n, 6), ColHi: unlike(n, 7)})
	handed := func(book *guard.Book) {
		book.Rats(x)
		book.Basis(b)
		book.Point(p)
		book.Cert(c)
	}
	before := Told(s)
	fault := guard.Fault(handed, func(book *guard.Book) {
		first, _ := s.Primal(x)
		second, _ := s.Lift(x)
		third, _ := s.Dual(p)
		fourth, fifth, _ := s.Basis(b, p)
		sixth, _ := s.Cert(c)
		book.Rats(first)
		book.Rats(second)
		book.Point(third)
		book.Basis(fourth)
		book.Point(fifth)
		book.Cert(sixth)
	})
	if fault == "" && Told(s) != before {
		return "what the stack answered, when it is overwritten, changes what it tells"
	}
	return fault
}

// shared: the same model, in which numbers that are alike have one list, in m's own lists.
func shared(m api.Model) api.Model {
	lists := map[string]api.Rat{}
	one := func(r *api.Rat) {
		name, _ := rat.Text(*r)
		if _, found := lists[name]; !found {
			lists[name] = *r
		}
		*r = lists[name]
	}
	one(&m.Offset)
	for i := range m.Cols {
		c := &m.Cols[i]
		one(&c.Cost)
		one(&c.Lo.V)
		one(&c.Hi.V)
	}
	for i := range m.Rows {
		r := &m.Rows[i]
		one(&r.Lo.V)
		one(&r.Hi.V)
		for k := range r.Terms {
			one(&r.Terms[k].A)
		}
	}
	return m
}

// made: nil, where there is no stack of that size.
func made(cols, rows int) *stack.Stack {
	s, _ := stack.New(cols, rows)
	return s
}
