package queue_test

import (
	"slices"
	"testing"

	"tableau/api"
	"tableau/queue"
)

type item = queue.Item

// before: by the chapter's order.
func before(a, b item) bool { return a.Key < b.Key || a.Key == b.Key && a.Id < b.Id }

// A plain queue keeps its items in order, in a list: against it the queue is held.
type plain struct{ items []item }

func (p *plain) place(id int) int {
	return slices.IndexFunc(p.items, func(x item) bool { return x.Id == id })
}

// put wants an Id that isn't there.
func (p *plain) put(x item) {
	at := 0
	for at < len(p.items) && before(p.items[at], x) {
		at++
	}
	p.items = slices.Insert(p.items, at, x)
}

func (p *plain) push(x item) api.Errno {
	switch {
	case p.place(x.Id) >= 0:
		return api.ErrExists
	case len(p.items) == 4096:
		return api.ErrFull
	}
	p.put(x)
	return api.OK
}

func (p *plain) pop() (item, api.Errno) {
	if len(p.items) == 0 {
		return item{}, api.ErrNone
	}
	first := p.items[0]
	p.items = p.items[1:]
	return first, api.OK
}

func (p *plain) remove(id int) api.Errno {
	at := p.place(id)
	if at < 0 {
		return api.ErrNone
	}
	p.items = slices.Delete(slices.Clone(p.items), at, at+1)
	return api.OK
}

func (p *plain) fix(x item) api.Errno {
	if e := p.remove(x.Id); e != api.OK {
		return e
	}
	p.put(x)
	return api.OK
}

// made: both queues with these items.
func made(t *testing.T, items ...item) (*queue.Queue, *plain) {
	t.Helper()
	q, p := queue.New(), &plain{}
	for _, x := range items {
		if e := q.Push(x.Id, x.Key); e != api.OK || p.push(x) != api.OK {
			t.Fatalf("P15.1: Push of %v: %d", x, e)
		}
	}
	checkSame(t, "pushed", q, p)
	return q, p
}

// checkSame: all that the queue tells, without a change.
func checkSame(t *testing.T, name string, q *queue.Queue, p *plain) {
	t.Helper()
	if n := q.Len(); n != len(p.items) {
		t.Fatalf("P15.2: %s: Len = %d, want %d", name, n, len(p.items))
	}
	if l := q.Items(); !slices.Equal(l, p.items) {
		t.Fatalf("P15.2: %s: Items = %v, want %v", name, l, p.items)
	}
	for _, x := range p.items {
		if !q.Has(x.Id) {
			t.Fatalf("P15.2: %s: Has(%d) is false", name, x.Id)
		}
	}
	first, e := q.Peek()
	if len(p.items) == 0 && (e != api.ErrNone || first != item{}) || len(p.items) > 0 && (e != api.OK || first != p.items[0]) {
		t.Fatalf("P15.1: %s: Peek = %v, %d of %v", name, first, e, p.items)
	}
}

// checkDrained: Pops till none is left answer the items in order, and then ErrNone, again and again.
func checkDrained(t *testing.T, name string, q *queue.Queue, p *plain) {
	t.Helper()
	for range len(p.items) + 3 {
		want, f := p.pop()
		got, e := q.Pop()
		if got != want || e != f || q.Len() != len(p.items) || f == api.OK && q.Has(got.Id) {
			t.Fatalf("P15.3: %s: Pop = %v, %d, want %v, %d", name, got, e, want, f)
		}
	}
	checkSame(t, name, q, p)
}
