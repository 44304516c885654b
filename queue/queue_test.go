package queue_test

import (
	"math"
	"slices"
	"strconv"
	"testing"

	"tableau/api"
	"tableau/guard"
	"tableau/queue"
)

// TestExample: that of the chapter.
func TestExample(t *testing.T) {
	q := queue.New()
	for _, x := range []item{{3, 5}, {1, 5}, {2, 9}} {
		if e := q.Push(x.Id, x.Key); e != api.OK {
			t.Errorf("P15.1: Push(%v): %d", x, e)
		}
	}
	if x, e := q.Peek(); x != (item{1, 5}) || e != api.OK {
		t.Errorf("P15.1: Peek = %v, %d", x, e)
	}
	if e := q.Fix(2, 0); e != api.OK {
		t.Errorf("P15.1: Fix: %d", e)
	}
	if x, e := q.Peek(); x != (item{2, 0}) || e != api.OK {
		t.Errorf("P15.1: Peek = %v, %d", x, e)
	}
	if e := q.Remove(2); e != api.OK {
		t.Errorf("P15.1: Remove: %d", e)
	}
	for _, want := range []item{{1, 5}, {3, 5}} {
		if x, e := q.Pop(); x != want || e != api.OK {
			t.Errorf("P15.3: Pop = %v, %d, want %v", x, e, want)
		}
	}
	if x, e := q.Pop(); x != (item{}) || e != api.ErrNone {
		t.Errorf("P15.1: Pop of none = %v, %d", x, e)
	}
	if e, f := q.Push(3, 5), q.Push(3, 5); e != api.OK || f != api.ErrExists {
		t.Errorf("P15.1: Push twice: %d, %d", e, f)
	}
}

// TestNone: a queue without items.
func TestNone(t *testing.T) {
	q, p := queue.New(), &plain{}
	if q == nil {
		t.Fatal("P15.1: New answers nil")
	}
	checkSame(t, "new", q, p)
	for _, id := range []int{0, 1, -1, math.MaxInt, math.MinInt} {
		if q.Has(id) || q.Fix(id, 1) != api.ErrNone || q.Remove(id) != api.ErrNone {
			t.Errorf("P15.1: an item %d of none", id)
		}
	}
	if x, e := q.Pop(); x != (item{}) || e != api.ErrNone {
		t.Errorf("P15.1: Pop of none = %v, %d", x, e)
	}
	checkSame(t, "none", q, p)
	// One whose items are all gone is like a new one.
	q, p = made(t, item{4, 4}, item{-4, 4})
	checkDrained(t, "two", q, p)
	if q.Has(4) || q.Has(-4) || q.Has(0) || q.Fix(4, 4) != api.ErrNone || q.Remove(-4) != api.ErrNone {
		t.Error("P15.1: items that are gone")
	}
}

// TestOne: the one item there is.
func TestOne(t *testing.T) {
	for _, x := range []item{{0, 0}, {7, -7}, {-1, math.MaxInt}, {math.MinInt, math.MinInt}, {math.MaxInt, 1}} {
		q, p := made(t, x)
		if q.Has(x.Id+1) || q.Has(x.Id-1) || !q.Has(x.Id) || q.Remove(x.Id+1) != api.ErrNone || q.Fix(x.Id-1, 0) != api.ErrNone {
			t.Errorf("P15.2: an item that isn't there beside %v", x)
		}
		checkSame(t, "one", q, p)
		if e := q.Push(x.Id, x.Key+1); e != api.ErrExists {
			t.Errorf("P15.1: Push of %v again: %d", x, e)
		}
		checkSame(t, "pushed again", q, p)
		checkDrained(t, "one", q, p)
		if e := q.Push(x.Id, 3); e != api.OK {
			t.Errorf("P15.1: Push of %v that was popped: %d", x, e)
		}
		p.push(item{x.Id, 3})
		if e := q.Remove(x.Id); e != api.OK || q.Remove(x.Id) != api.ErrNone {
			t.Errorf("P15.1: Remove of %v: %d", x, e)
		}
		p.remove(x.Id)
		checkSame(t, "removed", q, p)
	}
}

// extremes: the least and the greatest numbers, and those about 0.
func extremes() []int {
	return []int{math.MinInt, math.MinInt + 1, math.MinInt / 2, -2, -1, 0, 1, 2, math.MaxInt / 2, math.MaxInt - 1, math.MaxInt}
}

// TestExtremes: each of them as Id with each as key, in several orders; of equal keys the Ids decide.
func TestExtremes(t *testing.T) {
	ids := extremes()
	for _, key := range ids {
		var items []item
		for _, id := range ids {
			items = append(items, item{id, key})
		}
		for range len(items) {
			items = append(items[1:], items[0])
			q, p := made(t, items...)
			checkDrained(t, "equal keys", q, p)
		}
		slices.Reverse(items)
		q, p := made(t, items...)
		checkDrained(t, "equal keys, reversed", q, p)
	}
	for turn := range ids {
		var items []item
		for i, id := range ids {
			items = append(items, item{id, ids[(i*3+turn)%len(ids)]})
		}
		q, p := made(t, items...)
		checkDrained(t, "other keys", q, p)
	}
}

// orders: all orders of the first n numbers.
func orders(n int) [][]int {
	if n == 0 {
		return [][]int{nil}
	}
	var out [][]int
	for _, o := range orders(n - 1) {
		for at := range n {
			out = append(out, slices.Insert(slices.Clone(o), at, n-1))
		}
	}
	return out
}

// TestOrders: six items pushed in all orders, with keys of which some are equal; each of them then removed, or fixed to a lesser, an equal and a greater key.
func TestOrders(t *testing.T) {
	all := []item{{5, -1}, {-3, 0}, {2, 0}, {9, 0}, {0, 4}, {1, 7}}
	for _, o := range orders(len(all)) {
		var items []item
		for _, i := range o {
			items = append(items, all[i])
		}
		q, p := made(t, items...)
		checkDrained(t, "pushed", q, p)
	}
	for _, x := range all {
		for key := -3; key <= 9; key++ {
			q, p := made(t, all...)
			if e := q.Fix(x.Id, key); e != api.OK || p.fix(item{x.Id, key}) != api.OK {
				t.Errorf("P15.1: Fix(%d, %d): %d", x.Id, key, e)
			}
			checkSame(t, "fixed", q, p)
			checkDrained(t, "fixed", q, p)
		}
		q, p := made(t, all...)
		if e := q.Remove(x.Id); e != api.OK || p.remove(x.Id) != api.OK || q.Has(x.Id) {
			t.Errorf("P15.1: Remove(%d): %d", x.Id, e)
		}
		checkSame(t, "removed", q, p)
		if e := q.Push(x.Id, 0); e != api.OK || p.push(item{x.Id, 0}) != api.OK {
			t.Errorf("P15.1: Push(%d) of one removed: %d", x.Id, e)
		}
		checkSame(t, "pushed again", q, p)
		checkDrained(t, "pushed again", q, p)
	}
}

// TestFull: MaxItems items and one more; and room again.
func TestFull(t *testing.T) {
	q, p := queue.New(), &plain{}
	for i := range api.MaxItems {
		x := item{i*2741%4099 - 2000, i * 577 % 91}
		if e := q.Push(x.Id, x.Key); e != api.OK {
			t.Fatalf("P15.1: Push of item %d: %d", i, e)
		}
		p.put(x)
	}
	checkSame(t, "full", q, p)
	for _, key := range []int{-1, 0, 50, 1000} {
		if e := q.Push(5000, key); e != api.ErrFull || q.Has(5000) {
			t.Errorf("P15.1: Push of one more: %d", e)
		}
		if e := q.Push(p.items[9].Id, key); e != api.ErrExists {
			t.Errorf("P15.1: Push of one that is there into a full queue: %d", e)
		}
	}
	checkSame(t, "still full", q, p)
	if e := q.Fix(p.items[4000].Id, -5); e != api.OK || p.fix(item{p.items[4000].Id, -5}) != api.OK {
		t.Errorf("P15.1: Fix in a full queue: %d", e)
	}
	checkSame(t, "fixed", q, p)
	if e := q.Remove(p.items[2000].Id); e != api.OK || p.remove(p.items[2000].Id) != api.OK {
		t.Errorf("P15.1: Remove of a full queue: %d", e)
	}
	if e := q.Push(5000, 3); e != api.OK || p.push(item{5000, 3}) != api.OK || q.Push(5001, 3) != api.ErrFull {
		t.Errorf("P15.1: Push into the room of one: %d", e)
	}
	q.Pop()
	p.pop()
	if e := q.Push(5001, 90); e != api.OK || p.push(item{5001, 90}) != api.OK || q.Push(5002, 90) != api.ErrFull {
		t.Errorf("P15.1: Push into the room of a popped one: %d", e)
	}
	checkSame(t, "full again", q, p)
	checkDrained(t, "full", q, p)
}

// TestFollow: long runs of drawn calls; few Ids and keys, so that there are all kinds of answers.
func TestFollow(t *testing.T) {
	state := uint64(3)
	below := func(n int) int {
		state = state*6364136223846793005 + 1442695040888963407
		return int(state>>33) % n
	}
	seen := map[string]int{}
	for _, ids := range []int{4, 20, 300} {
		q, p := queue.New(), &plain{}
		for range 6000 {
			x, name := item{below(ids) - ids/2, below(9) - 4}, ""
			var got, want item
			var e, f api.Errno
			switch below(7) {
			case 0, 1, 2:
				name, e, f = "Push", q.Push(x.Id, x.Key), p.push(x)
			case 3:
				name, e, f = "Fix", q.Fix(x.Id, x.Key), p.fix(x)
			case 4:
				name, e, f = "Remove", q.Remove(x.Id), p.remove(x.Id)
			case 5:
				if q.Has(x.Id) != (p.place(x.Id) >= 0) {
					t.Fatalf("P15.2: Has(%d) of %v", x.Id, p.items)
				}
			case 6:
				name = "Pop"
				got, e = q.Pop()
				want, f = p.pop()
			}
			if got != want || e != f {
				t.Fatalf("P15.1: %s of %v: %v, %d, want %v, %d", name, x, got, e, want, f)
			}
			seen[name+strconv.Itoa(int(e))]++
			checkSame(t, name, q, p)
		}
		checkDrained(t, "in the end", q, p)
	}
	for _, kind := range []string{"Push0", "Push6", "Fix0", "Fix9", "Remove0", "Remove9", "Pop0", "Pop9"} {
		if seen[kind] < 20 {
			t.Errorf("only %d of %s were tried", seen[kind], kind)
		}
	}
}

// TestTwo: two queues beside one another.
func TestTwo(t *testing.T) {
	a, b := queue.New(), queue.New()
	p, r := &plain{}, &plain{}
	for i := range 40 {
		x, y := item{i % 25, i * 7 % 11}, item{i % 31, -i * 5 % 13}
		if e, f := a.Push(x.Id, x.Key), p.push(x); e != f {
			t.Errorf("P15.1: Push of %v: %d, want %d", x, e, f)
		}
		if e, f := b.Push(y.Id, y.Key), r.push(y); e != f {
			t.Errorf("P15.1: Push of %v: %d, want %d", y, e, f)
		}
		if i%9 == 8 {
			a.Pop()
			p.pop()
			b.Fix(i%31, 3)
			r.fix(item{i % 31, 3})
		}
		checkSame(t, "the one", a, p)
		checkSame(t, "the other", b, r)
	}
	checkDrained(t, "the one", a, p)
	checkSame(t, "the other, while the one is empty", b, r)
	checkDrained(t, "the other", b, r)
}

// TestNil: a nil queue at every call; whatever else applies, ErrNone.
func TestNil(t *testing.T) {
	var q *queue.Queue
	for range 2 {
		for _, id := range extremes() {
			if e, f, g := q.Push(id, 1), q.Fix(id, 1), q.Remove(id); e != api.ErrNone || f != api.ErrNone || g != api.ErrNone {
				t.Errorf("a nil queue: %d, %d, %d", e, f, g)
			}
			if q.Has(id) {
				t.Errorf("a nil queue has %d", id)
			}
		}
		if x, e := q.Pop(); x != (item{}) || e != api.ErrNone {
			t.Errorf("a nil queue: Pop = %v, %d", x, e)
		}
		if x, e := q.Peek(); x != (item{}) || e != api.ErrNone {
			t.Errorf("a nil queue: Peek = %v, %d", x, e)
		}
		if n, l := q.Len(), q.Items(); n != 0 || len(l) != 0 {
			t.Errorf("a nil queue: %d items, %v", n, l)
		}
	}
}

// TestZero: a Queue that did not come from New panics nowhere.
func TestZero(t *testing.T) {
	q, p := &queue.Queue{}, &plain{}
	checkSame(t, "zero", q, p)
	q.Fix(1, 1)
	q.Remove(1)
	q.Pop()
	if e := q.Push(1, 2); e != api.OK || p.push(item{1, 2}) != api.OK {
		t.Errorf("Push to a zero Queue: %d", e)
	}
	checkDrained(t, "zero", q, p)
}

// tell: what Items answers, for the guard.
func tell(b *guard.Book, l []item) {
	text := func(x item) string { return strconv.Itoa(x.Id) + ":" + strconv.Itoa(x.Key) }
	guard.List(b, l, text, item{-99, -99})
}

// TestMemory: Items answers new memory each time, and what becomes of it changes nothing in the queue.
func TestMemory(t *testing.T) {
	for _, n := range []int{0, 1, 2, 3, 7, 100} {
		q, p := queue.New(), &plain{}
		for i := range n {
			q.Push(i*37%101, i*11%7)
			p.push(item{i * 37 % 101, i * 11 % 7})
		}
		check := func(name string) {
			t.Helper()
			if fault := guard.Fault(func(b *guard.Book) {}, func(b *guard.Book) { tell(b, q.Items()) }); fault != "" {
				t.Errorf("Items of %d items, %s: %s", n, name, fault)
			}
			checkSame(t, name, q, p)
		}
		check("pushed")
		kept := q.Items()
		q.Pop()
		p.pop()
		check("popped")
		q.Push(500, -500)
		p.push(item{500, -500})
		check("pushed more")
		q.Fix(500, 3)
		p.fix(item{500, 3})
		q.Remove(37)
		p.remove(37)
		check("fixed and removed")
		_ = append(kept[:0:cap(kept)], make([]item, cap(kept))...)
		checkSame(t, "earlier items overwritten", q, p)
		kept = q.Items()
		was := slices.Clone(kept)
		for q.Len() > 0 {
			q.Pop()
		}
		q.Push(1, 1)
		if !slices.Equal(kept, was) {
			t.Errorf("Items of %d items: what was answered has become %v, from %v", n, kept, was)
		}
	}
}
