package many_test

import (
	"slices"
	"strconv"
	"testing"

	"tableau/api"
	"tableau/driver"
	"tableau/many"
	"tableau/sample"
	"tableau/simplex"
	"tableau/text"
	"tableau/trial"
)

const first = "min 3\ncol x -1 0 4\ncol y -1 0 4\nrow r -inf 6 1 x 2 y\nend\n"

// printed: the text of a model; the empty one, if it is not well formed.
func printed(m api.Model) string {
	s, _ := text.Print(m)
	return s
}

// mixed: so many jobs: models of each status with scripts of each kind, and among them texts and scripts with faults of each kind.
func mixed(count int) []many.Job {
	faults := []many.Job{
		{Text: ""}, {Text: "min 0\nx\n", Script: []int{9}}, {Text: first, Script: []int{1, 9}}, {Text: first, Script: make([]int, 65)}, {Text: first + "end\n"},
		{Text: "min 0\ncol x 0 0 1\ncol x 0 0 1\nend\n", Script: []int{1}}, {Text: "min 0\nrow r 0 1 1 x\nend\n"}, {Text: "min 1/2\nend\n", Script: []int{3}}, {Text: "min 0\nend\n"},
	}
	var out []many.Job
	for i := range count {
		if i%4 == 3 {
			out = append(out, faults[i/4%len(faults)])
		} else {
			out = append(out, many.Job{Text: printed(sample.Busy(i)), Script: sample.Script(i, 6)})
		}
	}
	return out
}

// one: what driver.Text answers of a job.
func one(j many.Job) many.Result {
	a, at, e := driver.Text(j.Text, j.Script)
	return many.Result{Answer: a, At: at, E: e}
}

func sameResult(a, b many.Result) bool {
	return a.At == b.At && a.E == b.E && trial.SameAnswer(a.Answer, b.Answer)
}

// checkRun: for each job, in their order, what driver.Text answers.
func checkRun(t *testing.T, jobs []many.Job, workers int) {
	t.Helper()
	got, e := many.Run(jobs, workers)
	if e != api.OK || len(got) != len(jobs) {
		t.Fatalf("P29.1: Run of %d jobs by %d workers: %d results, %d", len(jobs), workers, len(got), e)
	}
	for i, j := range jobs {
		if want := one(j); !sameResult(got[i], want) {
			t.Fatalf("P29.1, P29.2: Run by %d workers: of the job %d, %v: %v, want %v", workers, i, j, got[i], want)
		}
	}
}

// checkScripts: for each script, in their order, what driver.Solve answers.
func checkScripts(t *testing.T, m api.Model, scripts [][]int, workers int) {
	t.Helper()
	got, e := many.Scripts(m, scripts, workers)
	if e != api.OK || len(got) != len(scripts) {
		t.Fatalf("P29.1: Scripts of %d scripts by %d workers: %d answers, %d", len(scripts), workers, len(got), e)
	}
	for i, script := range scripts {
		if want, f := driver.Solve(m, script); f != api.OK || !trial.SameAnswer(got[i], want) {
			t.Fatalf("P29.1, P29.2: Scripts of %v by %d workers: of %v: %v, want %v, %d", m, workers, script, got[i], want, f)
		}
		if is, _ := simplex.Judge(m, got[i]); !is || got[i].Status != got[0].Status || !slices.Equal(got[i].Value.Num, got[0].Value.Num) || !slices.Equal(got[i].Value.Den, got[0].Value.Den) {
			t.Fatalf("P3 to P5: Scripts of %v: of %v: %v, of %v: %v", m, scripts[0], got[0], script, got[i])
		}
	}
}

// drawnScripts: so many.
func drawnScripts(seed, count int) [][]int {
	var out [][]int
	for i := range count {
		out = append(out, sample.Script(1000*seed+i, 6))
	}
	return out
}

// least: of errors the one with the least number, where 0 is none.
func least(list ...api.Errno) api.Errno {
	list = slices.DeleteFunc(list, func(e api.Errno) bool { return e == api.OK })
	if len(list) == 0 {
		return api.OK
	}
	return slices.Min(list)
}

// name tells what is tried.
func name(parts ...int) string {
	out := ""
	for _, n := range parts {
		out += " " + strconv.Itoa(n)
	}
	return out
}
