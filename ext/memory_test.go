package ext_test

import (
	"slices"
	"testing"

	"tableau/api"
	"tableau/ext"
)

const (
	mark   = 0xABCDEF0123456789
	scrawl = 0x5C2A375C2A375C2A
)

// guarded: the list with spare room behind it that holds marks.
func guarded(a []uint64) []uint64 {
	room := append(slices.Clone(a), mark, mark, mark)
	return room[:len(a)]
}

func guardedExt(x api.Ext) api.Ext {
	return api.Ext{Inf: x.Inf, V: api.Rat{Neg: x.V.Neg, Num: guarded(x.V.Num), Den: guarded(x.V.Den)}}
}

// withSpare: a list with its spare room.
func withSpare(a []uint64) []uint64 { return a[:cap(a)] }

func scribble(lists [][]uint64) {
	for _, a := range lists {
		for i := range withSpare(a) {
			withSpare(a)[i] = scrawl
		}
	}
}

// lists: all limbs of these bounds.
func lists(bounds ...api.Ext) [][]uint64 {
	var out [][]uint64
	for _, x := range bounds {
		out = append(out, x.V.Num, x.V.Den)
	}
	return out
}

// copies: the lists as they stand now, without spare room.
func copies(l [][]uint64) [][]uint64 {
	var out [][]uint64
	for _, a := range l {
		out = append(out, slices.Clone(a))
	}
	return out
}

func alike(a, b [][]uint64) bool { return slices.EqualFunc(a, b, slices.Equal) }

// calls: each call, with all lists that it answers.
func calls() map[string]func(a, b api.Ext) [][]uint64 {
	return map[string]func(a, b api.Ext) [][]uint64{
		"Of":    func(a, b api.Ext) [][]uint64 { x, _ := ext.Of(a.V); return lists(x) },
		"Low":   func(a, b api.Ext) [][]uint64 { return lists(ext.Low(), ext.Low(), ext.High()) },
		"High":  func(a, b api.Ext) [][]uint64 { return lists(ext.High(), ext.High(), ext.Low()) },
		"Neg":   func(a, b api.Ext) [][]uint64 { x, _ := ext.Neg(a); return lists(x) },
		"Shift": func(a, b api.Ext) [][]uint64 { x, _ := ext.Shift(a, b.V); return lists(x) },
		"Scale": func(a, b api.Ext) [][]uint64 { x, _ := ext.Scale(a, b.V); return lists(x) },
		"Max":   func(a, b api.Ext) [][]uint64 { x, _ := ext.Max(a, b); return lists(x) },
		"Min":   func(a, b api.Ext) [][]uint64 { x, _ := ext.Min(a, b); return lists(x) },
		"Read": func(a, b api.Ext) [][]uint64 {
			s, _ := ext.Text(a)
			x, _ := ext.Read(s)
			return lists(x)
		},
		"Copy": func(a, b api.Ext) [][]uint64 { return lists(ext.Copy(a), ext.Copy(b)) },
		"none": func(a, b api.Ext) [][]uint64 {
			ext.Form(a)
			ext.Cmp(a, b)
			return nil
		},
	}
}

// TestMemory: arguments and their spare room stay as they are, and no answer shares memory with an argument, with another list, or with an earlier answer.
func TestMemory(t *testing.T) {
	some := append(rising(), badBounds()...)
	for name, call := range calls() {
		for _, x := range some {
			for _, y := range some {
				checkMemory(t, name, call, guardedExt(x), guardedExt(y))
			}
			both := guardedExt(x)
			checkMemory(t, name+" of one bound twice", call, both, both)
		}
	}
}

func checkMemory(t *testing.T, name string, call func(a, b api.Ext) [][]uint64, a, b api.Ext) {
	t.Helper()
	var handed [][]uint64
	for _, l := range lists(a, b) {
		handed = append(handed, withSpare(l))
	}
	before := copies(handed)
	first := call(a, b)
	want := copies(first)
	if !alike(before, handed) {
		t.Fatalf("%s changes what it is handed, or its spare room: %v", name, before)
	}
	for i := range first {
		scribble(first[i : i+1])
		if !alike(first[i+1:], want[i+1:]) {
			t.Fatalf("%s: two lists of the answer share memory at %v", name, before)
		}
	}
	if !alike(before, handed) {
		t.Fatalf("%s: an answer shares memory with what was handed in: %v", name, before)
	}
	second := call(a, b)
	if !alike(second, want) {
		t.Fatalf("%s: an answer depends on an earlier one at %v", name, before)
	}
	scribble(first)
	scribble(handed)
	if !alike(second, want) {
		t.Fatalf("%s: an answer shares memory with an argument or an earlier answer at %v", name, before)
	}
}
