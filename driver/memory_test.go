package driver_test

import (
	"slices"
	"testing"

	"tableau/api"
	"tableau/driver"
	"tableau/guard"
	"tableau/sample"
	"tableau/simplex"
	"tableau/text"
	"tableau/trial"
)

// checkMemory: what Solve, Text and Report are handed stays as it is, spare room too, and what they answer is new memory.
func checkMemory(t *testing.T, m api.Model, script []int) {
	t.Helper()
	own, list := guard.Model(m), append(slices.Clone(script), 77, 78, 79)[:len(script)]
	fault := guard.Fault(func(b *guard.Book) { b.Model(own); b.Ints(list) }, func(b *guard.Book) {
		a, _ := driver.Solve(own, list)
		b.Answer(a)
	})
	if fault != "" {
		t.Errorf("Solve of %v by %v: %s", m, script, fault)
	}
	list = append(slices.Clone(script), 77, 78, 79)[:len(script)]
	s, _ := text.Print(m)
	fault = guard.Fault(func(b *guard.Book) { b.Ints(list) }, func(b *guard.Book) {
		a, _, _ := driver.Text(s, list)
		b.Answer(a)
	})
	if fault != "" {
		t.Errorf("Text of %q by %v: %s", s, script, fault)
	}
	a, _ := simplex.Solve(m)
	for _, a := range []api.Answer{a, {}, {Status: 1, Value: api.Rat{Neg: true}, Ray: api.Ray{X: nums(1, 2)}}} {
		own, asked := guard.Model(m), guard.Answer(a)
		fault := guard.Fault(func(b *guard.Book) { b.Model(own); b.Answer(asked) }, func(b *guard.Book) { driver.Report(own, asked) })
		if fault != "" {
			t.Errorf("Report of %v, %v: %s", m, a, fault)
		}
	}
}

// TestMemory: of each outcome and each status, and of what is refused.
func TestMemory(t *testing.T) {
	for _, k := range endings() {
		for _, script := range [][]int{k.script, nil, everyPass(), {7}, {9}, make([]int, 65)} {
			checkMemory(t, read(t, k.text), script)
		}
	}
	for seed := range 120 {
		checkMemory(t, sample.Busy(seed), sample.Script(seed, 6))
	}
	for i, b := range sample.Brokens() {
		if i%9 == 0 {
			checkMemory(t, b.M, []int{1, 7})
		}
	}
}

// TestOneList: numbers of a model that have one list.
func TestOneList(t *testing.T) {
	nought, two := guard.Rat(sample.Frac(0, 1)), guard.Rat(sample.Frac(2, 1))
	at := api.Ext{V: two}
	m := api.Model{Offset: two, Cols: []api.Col{{Name: "x", Cost: two, Lo: at, Hi: at}, {Name: "y", Cost: nought, Lo: api.Ext{V: nought}, Hi: at}}}
	m.Rows = []api.Row{{Name: "r", Lo: at, Hi: at, Terms: []api.Term{{Col: 0, A: two}, {Col: 1, A: two}}}, {Name: "s", Lo: api.Ext{V: nought}, Hi: at, Terms: []api.Term{{Col: 1, A: two}}}}
	for code := range 8 {
		script := []int{max(code, 1), 1 + code%7}[:min(code, 2)]
		first := answered(t, guard.Model(m), script)
		if a := answered(t, m, script); !trial.SameAnswer(a, first) {
			t.Errorf("Solve of a model with one list: %v, where it has %v without", a, first)
		}
		checkMemory(t, m, script)
	}
	fault := guard.Fault(func(b *guard.Book) { b.Model(m) }, func(b *guard.Book) {
		a, _ := driver.Solve(m, []int{7})
		b.Answer(a)
	})
	if fault != "" {
		t.Errorf("Solve of a model with one list: %s", fault)
	}
}
