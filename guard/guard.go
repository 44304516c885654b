// Package guard is for the tests: it asks whether a call keeps the document's rule of memory. What is handed in stays as it is, its spare room too; an answer shares no memory with an argument, with another list of itself, or with an earlier answer.
package guard

import (
	"slices"
	"strings"
)

// A Book tells the lists that a value is made of, those inside its lists too.
type Book struct {
	spare bool // spare room is told like the rest
	lists []list
}

// A list tells what stands in it now, and what stands in it and its spare room, but for what the lists inside it hold; and it can be overwritten with its spare room.
type list struct {
	text     func() string
	room     func() string
	scribble func()
}

// Fault answers how a call breaks the rule; nothing, if it keeps it. Both functions tell lists in a book: handed those of all that is handed in, call those of a new answer to it. In the end all that was handed in is overwritten.
func Fault(handed, call func(b *Book)) string {
	given := told(handed, true)
	before := given.texts()
	unchanged := func() bool { return slices.Equal(told(handed, true).texts(), before) }

	first := told(call, false)
	want := first.texts()
	if !unchanged() {
		return "what is handed in is changed, or its spare room"
	}
	if !first.apart() {
		return "two lists of the answer share memory"
	}
	if !unchanged() {
		return "the answer shares memory with what is handed in"
	}
	second := told(call, false)
	if !slices.Equal(second.texts(), want) {
		return "the answer hangs on what became of an earlier one"
	}
	first.scribble()
	given.scribble()
	if !slices.Equal(second.texts(), want) {
		return "the answer shares memory with an earlier one, or with what is handed in"
	}
	return ""
}

func told(tell func(b *Book), spare bool) *Book {
	b := &Book{spare: spare}
	tell(b)
	return b
}

func (b *Book) texts() []string {
	var out []string
	for _, l := range b.lists {
		out = append(out, l.text())
	}
	return out
}

func (b *Book) scribble() {
	for _, l := range b.lists {
		l.scribble()
	}
}

// apart overwrites the lists one by one, and asks each ahead of that whether it is still as it was, its spare room too.
func (b *Book) apart() bool {
	var rooms []string
	for _, l := range b.lists {
		rooms = append(rooms, l.room())
	}
	for i, l := range b.lists {
		if l.room() != rooms[i] {
			return false
		}
		l.scribble()
	}
	return true
}

// note tells a list in the book, and answers it as far as it is told.
func note[T any](b *Book, a []T, text func(T) string, scrawl T) []T {
	full := a[:cap(a)]
	if b.spare {
		a = full
	}
	tell := func(a []T) string {
		var out strings.Builder
		for _, x := range a {
			out.WriteString(text(x) + ";")
		}
		return out.String()
	}
	b.lists = append(b.lists, list{
		text: func() string { return tell(a) },
		room: func() string { return tell(full) },
		scribble: func() {
			for i := range full {
				full[i] = scrawl
			}
		},
	})
	return a
}

// padded answers a list of its own with marks in spare room behind it.
func padded[T any](a []T, mark T) []T {
	out := append(slices.Clone(a), mark, mark, mark)
	return out[:len(a)]
}
