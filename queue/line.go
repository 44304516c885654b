package queue

import "cmp"

// A line is the items as container/heap keeps them: the first one stands at 0.
type line struct {
	items  []Item
	places map[int]int // by its Id, where each item stands
}

// compare has no two items alike, as no Id comes twice. It does not subtract: the difference of two ints may be none.
func compare(a, b Item) int {
	return cmp.Or(cmp.Compare(a.Key, b.Key), cmp.Compare(a.Id, b.Id))
}

// Len, Less, Swap, Push and Pop are heap.Interface.
func (l *line) Len() int { return len(l.items) }

func (l *line) Less(i, j int) bool { return compare(l.items[i], l.items[j]) < 0 }

func (l *line) Swap(i, j int) {
	l.items[i], l.items[j] = l.items[j], l.items[i]
	l.places[l.items[i].Id], l.places[l.items[j].Id] = i, j
}

// Push makes the map where there is none yet, so that a Queue of zero value is one without items.
func (l *line) Push(x any) {
	item := x.(Item)
	if l.places == nil {
		l.places = make(map[int]int)
	}
	l.places[item.Id] = len(l.items)
	l.items = append(l.items, item)
}

func (l *line) Pop() any {
	end := len(l.items) - 1
	item := l.items[end]
	delete(l.places, item.Id)
	l.items = l.items[:end]
	return item
}
