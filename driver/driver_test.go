package driver_test

import (
	"slices"
	"testing"

	"tableau/api"
	"tableau/driver"
	"tableau/post"
	"tableau/presolve"
	"tableau/sample"
	"tableau/simplex"
	"tableau/text"
	"tableau/trial"
)

// An ending is a model with a script, how the script ends, and the model's status and value.
type ending struct {
	text   string
	script []int
	kind   int
	status int
	value  string // of Optimal
}

// endings: models of each status, without columns, without rows and without both; scripts of no, one and several passes, of each outcome.
func endings() []ending {
	all := everyPass()
	return []ending{
		{"min 7/2", nil, api.Went, api.Optimal, "7/2"},
		{"min -7/2", all, api.Went, api.Optimal, "-7/2"},
		{"min 1/3 / row r -inf inf / row s -1 2 / row t 0 0", nil, api.Went, api.Optimal, "1/3"},
		{"min 1/3 / row r -inf inf / row s -1 2 / row t 0 0", []int{1}, api.Went, api.Optimal, "1/3"},
		{"min 0 / col x 2 -3 inf / col y -1 -inf 8 / col z 5 6 6 / col w 0 -inf inf", nil, api.Went, api.Optimal, "16"},
		{"min 0 / col x 2 -3 inf / col y -1 -inf 8 / col z 5 6 6 / col w 0 -inf inf", []int{2, 3, 2}, api.Went, api.Optimal, "16"},
		{"min 3 / col x -1 0 4 / col y -1 0 4 / row r -inf 6 1 x 2 y", nil, api.Went, api.Optimal, "-2"},
		{"min 3 / col x -1 0 4 / col y -1 0 4 / row r -inf 6 1 x 2 y", []int{7}, api.Went, api.Optimal, "-2"},
		{"min 3 / col x -1 0 4 / col y -1 0 4 / row r -inf 6 1 x 2 y", []int{7, 7, 3, 1}, api.Went, api.Optimal, "-2"},
		{"min 0 / col x 1 -inf inf / row r 2 2 3 x", []int{1}, api.Went, api.Optimal, "2/3"},
		{"min 0 / col x 1 -inf inf / row r 2 2 3 x", []int{7, 2, 1}, api.Went, api.Optimal, "2/3"},
		{"min 0 / col x 1 -inf inf / col y 1 0 inf / row r 0 0 1 x -2 y", []int{5}, api.Went, api.Optimal, "0"},
		{"min 0 / col x 1 0 4 / col y 0 0 2 / row r 1 1 1 x -2 y", []int{4}, api.Went, api.Optimal, "1"},
		{"min 0 / col x -1 0 inf / col y -1 0 inf / row r -inf 4 1 x 1 y / row q -inf -2 -2 x -2 y", []int{6}, api.Went, api.Optimal, "-4"},
		{"min 0 / col x 1 2 1", nil, api.Went, api.Infeasible, ""},
		{"min 0 / col x 1 0 9 / col y 1 0 9 / row r 5 inf 1 x 1 y / row s -inf 4 1 x 1 y", []int{6}, api.Went, api.Infeasible, ""},
		{"min 0 / col x 1 0 9 / col y 1 0 9 / row r 5 inf 1 x 1 y / row s -inf 4 1 x 1 y", []int{7, 7}, api.Went, api.Infeasible, ""},
		{"min 0 / row r 1 2", nil, api.Went, api.Infeasible, ""},
		{"min 0 / row r 1 2", []int{1}, api.Empty, api.Infeasible, ""},
		{"min 0 / row r 1 2", []int{7, 6, 1, 2, 3}, api.Empty, api.Infeasible, ""},
		{"min 0 / col x 1 3 3 / col y 1 0 9 / row r -inf 2 1 x / row s 0 1 1 y", []int{2, 1}, api.Empty, api.Infeasible, ""},
		{"min 0 / col x 1 -inf inf", nil, api.Went, api.Unbounded, ""},
		{"min 0 / col x 1 -inf inf / col y 2 -inf inf / row r 1 1 1 x 1 y", []int{5}, api.Went, api.Unbounded, ""},
		{"min 0 / col x 1 -inf inf / col y 2 -inf inf / col z 1 0 9 / row r 1 1 1 x 1 y / row s -inf 3 2 z", []int{7, 5, 1}, api.Went, api.Unbounded, ""},
		{"min 0 / col x -1 0 inf / col y -1 0 inf / col z 0 0 9 / row r -1 1 1 x -1 y / row s 0 9 1 x -1 y 3 z", []int{7}, api.Went, api.Unbounded, ""},
		{"min 4 / col x -1 0 inf / col y 0 3 4", []int{3}, api.Pending, api.Unbounded, ""},
		{"min 4 / col x 1 -inf 0 / col y 5 3 3 / row r -inf 2 1 x / row s -inf 9 1 x 1 y", []int{1, 2, 3, 1}, api.Pending, api.Unbounded, ""},
		{"min 0 / col x -1 0 inf / col y 0 5 4", []int{3}, api.Pending, api.Infeasible, ""},
		{"min 0 / col x -1 0 inf / col y 1 0 9 / col z 1 0 9 / row r -inf 3 1 y 1 z / row s 5 inf 1 y 1 z", []int{7, 3}, api.Pending, api.Infeasible, ""},
	}
}

// TestEndings: by the script that is told, and by others the same status and value.
func TestEndings(t *testing.T) {
	tightened := count{}
	for _, k := range endings() {
		m := read(t, k.text)
		r, e := presolve.Run(m, k.script)
		if e != api.OK || r.Outcome.Kind != k.kind {
			t.Errorf("%s by %v: the outcome is %d", k.text, k.script, r.Outcome.Kind)
		}
		if r.Stack.Tightened() {
			tightened[k.value]++
		}
		value := api.Rat{}
		if k.status == api.Optimal {
			value = read(t, "min "+k.value).Offset
		}
		for _, script := range [][]int{k.script, nil, everyPass(), {7}, {3}, {1, 2}, slices.Repeat([]int{7, 5}, 32)} {
			checkAnswer(t, m, script, k.status, value)
		}
	}
	tightened.check(t, 2, "", "-2")
}

// TestParts: the answer is what Finish makes of simplex's one of what the script left; it is not always the one that simplex has of the model.
func TestParts(t *testing.T) {
	c := count{}
	check := func(m api.Model, script []int) {
		t.Helper()
		r, _ := presolve.Run(m, script)
		left, _ := simplex.Solve(r.Model)
		want, e := post.Finish(m, r, left)
		if a := answered(t, m, script); e != api.OK || !trial.SameAnswer(a, want) {
			t.Fatalf("P28.1: Solve(%v, %v) = %v, where the layers below have %v, %d", m, script, a, want, e)
		}
		if alone, _ := simplex.Solve(m); !trial.SameAnswer(alone, want) {
			c["answers that simplex alone hasn't"]++
		}
	}
	for _, k := range endings() {
		check(read(t, k.text), k.script)
	}
	for seed := range 200 {
		check(sample.Busy(seed), sample.Script(seed, 7))
	}
	c.check(t, 20, "answers that simplex alone hasn't")
}

// scriptFaults: scripts with the error that each has.
func scriptFaults() map[api.Errno][][]int {
	full := slices.Repeat([]int{6}, 64)
	return map[api.Errno][][]int{
		api.OK:      {nil, {}, {1}, everyPass(), full},
		api.ErrPass: {{0}, {8}, {-1}, {1, 2, 9}, {1 << 40, 7}, append(slices.Clone(full[:63]), 8)},
		api.ErrLong: {append(slices.Clone(full), 1), make([]int, 65), make([]int, 5000)},
	}
}

// least: of two errors the one with the least number, where 0 is none.
func least(e, f api.Errno) api.Errno {
	if e == api.OK || f != api.OK && f < e {
		return f
	}
	return e
}

// TestSolveErrors: models that are not well formed, scripts with a fault, and both: the least.
func TestSolveErrors(t *testing.T) {
	for of, scripts := range scriptFaults() {
		for _, script := range scripts {
			for _, b := range sample.Brokens() {
				if a, e := driver.Solve(b.M, script); e != least(b.E, of) || !isNothing(a) {
					t.Errorf("P28.1: %s: Solve by %v: %v, %d", b.Name, script, a, e)
				}
			}
			for _, k := range endings() {
				a, e := driver.Solve(read(t, k.text), script)
				if e != of || e != api.OK && !isNothing(a) {
					t.Errorf("P28.1: Solve(%s, %v) = %v, %d", k.text, script, a, e)
				}
			}
		}
	}
}

// badTexts: texts with a fault, each with its place: such as are of no form, and such of models that are not well formed.
func badTexts() map[string]struct {
	at int
	e  api.Errno
} {
	return map[string]struct {
		at int
		e  api.Errno
	}{
		"":                              {0, api.ErrText},
		"min":                           {0, api.ErrText},
		"min 0\n":                       {6, api.ErrText},
		"min 2/4\nend\n":                {0, api.ErrText},
		"min 0\nx\n":                    {6, api.ErrText},
		"min 0\nend\n\n":                {10, api.ErrText},
		"min 0\ncol x 0 inf inf\nend\n": {6, api.ErrText},
		"min 0\ncol x 0 0 1\nrow r 0 1 1 y\nend\n":                  {18, api.ErrName},
		"min 0\ncol x 0 0 1\ncol x 0 0 1\nend\n":                    {18, api.ErrExists},
		"min 0\nrow r 0 1\nrow r 0 1\nend\n":                        {16, api.ErrExists},
		"min 0\ncol x 0 0 1\ncol y 0 0 1\nrow r 0 1 1 y 1 x\nend\n": {30, api.ErrText},
		"min 0\ncol x 0 0 1\ncol x 0 0 1\nmin\n":                    {18, api.ErrExists},
		longText():                                                  {longAt(), api.ErrLong},
		"min 0\nend\n" + hugeText():                                 {0, api.ErrLong},
	}
}

// longText: a column too many; behind it stands worse.
func longText() string {
	m := sample.Full()
	s, _ := text.Print(api.Model{Offset: m.Offset, Cols: m.Cols})
	return s[:len(s)-4] + "col y 0 0 1\nmin\n"
}

// longAt: where that column's line begins.
func longAt() int { return len(longText()) - len("col y 0 0 1\nmin\n") }

// hugeText: more bytes than may be.
func hugeText() string { return string(make([]byte, api.MaxText)) }

// TestTextErrors: a text's fault comes ahead of the script's, whatever its number, with its place; a script's has the place 0.
func TestTextErrors(t *testing.T) {
	for of, scripts := range scriptFaults() {
		for _, script := range scripts {
			for s, want := range badTexts() {
				if a, at, e := driver.Text(s, script); at != want.at || e != want.e || !isNothing(a) {
					t.Errorf("P28.1: Text(%.80q, %v): %d at %d, want %d at %d; beside it %v", s, script, e, at, want.e, want.at, a)
				}
			}
			for _, k := range endings() {
				a, at, e := driver.Text(lines(k.text+" / end"), script)
				if at != 0 || e != of || e != api.OK && !isNothing(a) {
					t.Errorf("P28.1: Text(%s, %v): %v, %d at %d", k.text, script, a, e, at)
				}
			}
		}
	}
}
