package many_test

import (
	"math"
	"slices"
	"testing"

	"tableau/api"
	"tableau/guard"
	"tableau/many"
	"tableau/sample"
)

// workerFaults: numbers of workers with their error.
func workerFaults() map[int]api.Errno {
	return map[int]api.Errno{
		1: api.OK, 2: api.OK, 63: api.OK, 64: api.OK,
		0: api.ErrArg, 65: api.ErrArg, -1: api.ErrArg, -64: api.ErrArg, 1 << 32: api.ErrArg, 1<<32 + 1: api.ErrArg, math.MaxInt: api.ErrArg, math.MinInt: api.ErrArg, math.MinInt + 1: api.ErrArg,
	}
}

// TestRunErrors: workers and counts of jobs inside and outside their ranges; what is wrong with a job is its own.
func TestRunErrors(t *testing.T) {
	counts := map[int]api.Errno{0: api.OK, 1: api.OK, 256: api.OK, 257: api.ErrLong, 300: api.ErrLong, 5000: api.ErrLong}
	for workers, arg := range workerFaults() {
		for count, long := range counts {
			for _, j := range []many.Job{{}, {Text: "min 0\nend\n"}, {Text: "min 0\nend\n", Script: []int{8}}, {Text: "x", Script: make([]int, 65)}} {
				l, e := many.Run(slices.Repeat([]many.Job{j}, count), workers)
				want := least(arg, long)
				if e != want || want != api.OK && l != nil || want == api.OK && len(l) != count {
					t.Fatalf("P29.1: Run of %d jobs by %d: %d results, %d, want %d", count, workers, len(l), e, want)
				}
				for _, r := range l {
					if !sameResult(r, one(j)) {
						t.Fatalf("P29.1: Run of %v: %v", j, r)
					}
				}
			}
		}
	}
}

// scriptFaults: lists of scripts with the error that each has.
func scriptFaults() map[api.Errno][][][]int {
	full, wrong := slices.Repeat([]int{6}, 64), []int{1, 8}
	long := append(slices.Clone(full), 1)
	return map[api.Errno][][][]int{
		api.OK:      {nil, {}, {nil}, {{}, {7}}, {full, {1}}, slices.Repeat([][]int{{3}}, 256)},
		api.ErrPass: {{{0}}, {{8}}, {{1}, wrong}, {wrong, {1}}, {{1}, wrong, {2}}, {{-1}}, {{1 << 32, 1}}, append(slices.Repeat([][]int{{1}}, 255), wrong)},
		api.ErrLong: {{long}, {{1}, long}, {long, {1}}, {make([]int, 65)}, {wrong, long}, {long, wrong}, {wrong, make([]int, 200), wrong}, slices.Repeat([][]int{{1}}, 257), slices.Repeat([][]int{wrong}, 257), make([][]int, 400), append(slices.Repeat([][]int{{1}}, 255), long)},
	}
}

// TestScriptsErrors: workers, counts, models that are not well formed, and scripts with a fault, wherever it stands; of several errors the least.
func TestScriptsErrors(t *testing.T) {
	models := []sample.Broken{{Name: "well formed", M: sample.Sturdy(1)}, {Name: "nothing in it", M: api.Model{Offset: sample.Frac(1, 2)}}}
	seen := map[api.Errno]int{}
	for _, b := range sample.Brokens() {
		if seen[b.E]++; seen[b.E] <= 3 {
			models = append(models, b)
		}
	}
	for workers, arg := range workerFaults() {
		for of, lists := range scriptFaults() {
			for i, scripts := range lists {
				for _, b := range models {
					a, e := many.Scripts(b.M, scripts, workers)
					want := least(arg, of, b.E)
					if e != want || want != api.OK && a != nil || want == api.OK && len(a) != len(scripts) {
						t.Fatalf("P29.1: %s: Scripts of the list%s by %d: %d answers, %d, want %d", b.Name, name(int(of), i), workers, len(a), e, want)
					}
				}
			}
		}
	}
}

// TestBroken: each model that is not well formed, without scripts, too.
func TestBroken(t *testing.T) {
	for _, b := range sample.Brokens() {
		for _, scripts := range [][][]int{nil, {}, {nil}, {{1}, {7}}} {
			if a, e := many.Scripts(b.M, scripts, 2); a != nil || e != b.E {
				t.Errorf("P29.1: %s: Scripts of %v: %v, %d, want %d", b.Name, scripts, a, e, b.E)
			}
		}
	}
}

// tellResults tells the list of results, and their answers.
func tellResults(b *guard.Book, l []many.Result) {
	guard.List(b, l, func(r many.Result) string { return name(r.Answer.Status, r.At, int(r.E)) }, many.Result{At: 77})
	for _, r := range l {
		b.Answer(r.Answer)
	}
}

// padded: a copy with marks in spare room behind it.
func padded(script []int) []int { return append(slices.Clone(script), 77, 78, 79)[:len(script)] }

// TestMemoryOfRun: jobs and scripts stay as they are, spare room too, and results are new memory, also of jobs that share a script, or a text too.
func TestMemoryOfRun(t *testing.T) {
	for _, workers := range []int{1, 3, 64, 0} {
		jobs := append(mixed(30), many.Job{Text: "spare"})[:30]
		for i := range jobs {
			jobs[i].Script = padded(jobs[i].Script)
		}
		jobs[4].Script, jobs[5].Script = jobs[6].Script, jobs[6].Script
		jobs[8], jobs[9], jobs[29] = jobs[0], jobs[0], jobs[10]
		handed := func(b *guard.Book) {
			guard.List(b, jobs, func(j many.Job) string { return j.Text + name(len(j.Script)) }, many.Job{Text: "scrawl"})
			for _, j := range jobs[:30] {
				b.Ints(j.Script)
			}
		}
		if fault := guard.Fault(handed, func(b *guard.Book) {
			l, _ := many.Run(jobs, workers)
			tellResults(b, l)
		}); fault != "" {
			t.Errorf("Run by %d: %s", workers, fault)
		}
	}
}

// TestMemoryOfScripts: the model and the scripts stay as they are, and answers are new memory, also of scripts that are one list.
func TestMemoryOfScripts(t *testing.T) {
	for seed := range 30 {
		for _, workers := range []int{1, 4, 64, 65} {
			m := guard.Model(sample.Busy(seed))
			var scripts [][]int
			for _, script := range drawnScripts(seed, 8) {
				scripts = append(scripts, padded(script))
			}
			scripts[2], scripts[3] = scripts[5], scripts[5]
			handed := func(b *guard.Book) {
				b.Model(m)
				guard.List(b, scripts, func(script []int) string { return name(script...) }, []int{9})
				for _, script := range scripts[:8] {
					b.Ints(script)
				}
			}
			if fault := guard.Fault(handed, func(b *guard.Book) {
				l, _ := many.Scripts(m, scripts, workers)
				guard.List(b, l, func(a api.Answer) string { return name(a.Status) }, api.Answer{Status: 77})
				for _, a := range l {
					b.Answer(a)
				}
			}); fault != "" {
				t.Errorf("Scripts of %v by %d: %s", m, workers, fault)
			}
		}
	}
}
