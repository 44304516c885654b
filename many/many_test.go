package many_test

import (
	"runtime"
	"slices"
	"strconv"
	"testing"
	"time"

	"tableau/api"
	"tableau/many"
	"tableau/sample"
	"tableau/trial"
)

// TestExample: the chapter's.
func TestExample(t *testing.T) {
	for _, jobs := range [][]many.Job{nil, {}} {
		for _, workers := range []int{1, 2, 64} {
			if l, e := many.Run(jobs, workers); len(l) > 0 || e != api.OK {
				t.Errorf("P29.1: Run of no jobs: %v, %d", l, e)
			}
		}
		if l, e := many.Run(jobs, 0); len(l) > 0 || e != api.ErrArg {
			t.Errorf("P29.1: Run by no workers: %v, %d", l, e)
		}
	}
}

// TestRun: no job, one, some, as many as may be; fewer workers than jobs, as many, and more; jobs with faults among others.
func TestRun(t *testing.T) {
	for _, count := range []int{0, 1, 2, 3, 9, 40} {
		jobs := mixed(count)
		for workers := 1; workers <= api.MaxWorkers; workers++ {
			checkRun(t, jobs, workers)
		}
	}
	jobs := mixed(api.MaxJobs)
	for _, workers := range []int{1, 2, 7, 63, 64} {
		checkRun(t, jobs, workers)
	}
	found := map[api.Errno]int{}
	for _, j := range jobs {
		found[one(j).E]++
	}
	for _, e := range []api.Errno{api.OK, api.ErrText, api.ErrPass, api.ErrLong, api.ErrExists, api.ErrName} {
		if found[e] < 5 {
			t.Errorf("only %d jobs with the error %d were tried", found[e], e)
		}
	}
}

// TestOneText: jobs of one text by several scripts, of which each has its own answer, and by one script, several times.
func TestOneText(t *testing.T) {
	apart := 0
	for seed := range 40 {
		var jobs []many.Job
		for _, script := range append(drawnScripts(seed, 10), nil, []int{9}, []int{7}, []int{7}, make([]int, 65), nil) {
			jobs = append(jobs, many.Job{Text: printed(sample.Busy(seed)), Script: script})
		}
		for _, j := range jobs[1:] {
			if !sameResult(one(jobs[0]), one(j)) {
				apart++
			}
		}
		for _, workers := range []int{1, 2, 5, 16, 64} {
			checkRun(t, jobs, workers)
		}
	}
	if apart < 100 {
		t.Errorf("only %d jobs had another answer than the first one of the same text", apart)
	}
}

// TestOrder: each job has an answer of its own, which tells its place; the first ones take longest.
func TestOrder(t *testing.T) {
	jobs := []many.Job{{Text: printed(sample.Full()), Script: []int{7, 7, 7}}, {Text: printed(sample.Full())}}
	for i := len(jobs); i < api.MaxJobs; i++ {
		jobs = append(jobs, many.Job{Text: "min " + strconv.Itoa(i) + "\nend\n", Script: slices.Repeat([]int{1 + i%7}, i%65)})
	}
	for _, workers := range []int{1, 2, 5, 64} {
		l, e := many.Run(jobs, workers)
		if e != api.OK || len(l) != len(jobs) {
			t.Fatalf("P29.1: Run by %d: %d results, %d", workers, len(l), e)
		}
		for i := 2; i < len(l); i++ {
			want := many.Result{Answer: api.Answer{Status: api.Optimal, Value: sample.Frac(i, 1)}}
			if !sameResult(l[i], want) {
				t.Errorf("P29.1: Run by %d: the result %d is %v", workers, i, l[i])
			}
		}
	}
}

// TestScripts: no script, one, some, as many as may be; fewer workers than scripts, as many, and more.
func TestScripts(t *testing.T) {
	for seed := range 14 {
		for _, count := range []int{0, 1, 2, 5, 20} {
			scripts := drawnScripts(seed, count)
			for _, workers := range []int{1, 2, 3, 4, 5, 6, 19, 20, 21, 64} {
				checkScripts(t, sample.Busy(seed), scripts, workers)
			}
		}
		if seed%3 == 0 {
			checkScripts(t, sample.Busy(seed), drawnScripts(seed, api.MaxJobs), 1+21*seed%64)
		}
	}
	for _, m := range sample.Models() {
		checkScripts(t, m, [][]int{nil, {7}, {1, 2, 3, 4, 5, 6, 7}, {}, slices.Repeat([]int{7}, 64)}, 3)
	}
}

// TestAlike: the same by every number of workers, and each time.
func TestAlike(t *testing.T) {
	jobs := mixed(60)
	want, _ := many.Run(jobs, 1)
	m := sample.Sturdy(8)
	scripts := drawnScripts(3, 30)
	answers, _ := many.Scripts(m, scripts, 1)
	for turn := range 3 {
		for workers := 1; workers <= api.MaxWorkers; workers++ {
			if got, e := many.Run(jobs, workers); e != api.OK || !slices.EqualFunc(got, want, sameResult) {
				t.Fatalf("P2, P29.2: Run by %d workers, turn %d: %v, %d, where one has %v", workers, turn, got, e, want)
			}
			if got, e := many.Scripts(m, scripts, workers); e != api.OK || !slices.EqualFunc(got, answers, trial.SameAnswer) {
				t.Fatalf("P2, P29.2: Scripts by %d workers, turn %d: %v, %d, where one has %v", workers, turn, got, e, answers)
			}
		}
	}
}

// TestAtOnce: calls at one time, of the same jobs and the same model.
func TestAtOnce(t *testing.T) {
	jobs, m, scripts := mixed(24), sample.Sturdy(5), drawnScripts(9, 12)
	want, _ := many.Run(jobs, 1)
	answers, _ := many.Scripts(m, scripts, 1)
	results := make(chan bool)
	const calls = 16
	for i := range calls {
		go func() {
			l, e := many.Run(jobs, 1+4*i)
			a, f := many.Scripts(m, scripts, 64-4*i)
			results <- e == api.OK && f == api.OK && slices.EqualFunc(l, want, sameResult) && slices.EqualFunc(a, answers, trial.SameAnswer)
		}()
	}
	for range calls {
		if !<-results {
			t.Errorf("P2: calls at one time have other answers")
		}
	}
}

// TestEnded: no goroutine is left, with an error neither.
func TestEnded(t *testing.T) {
	before := runtime.NumGoroutine()
	jobs, m := mixed(20), sample.Three()
	for range 20 {
		for _, workers := range []int{-1, 0, 1, 2, 20, 64, 65} {
			many.Run(jobs, workers)
			many.Run(nil, workers)
			many.Run(make([]many.Job, 257), workers)
			many.Scripts(m, [][]int{{1}, {7}, nil}, workers)
			many.Scripts(m, [][]int{{1}, {8}, nil}, workers)
			many.Scripts(api.Model{}, [][]int{{1}}, workers)
		}
	}
	// What has told that it ends may be counted still for a moment.
	for range 1000 {
		if runtime.NumGoroutine() <= before {
			return
		}
		time.Sleep(time.Millisecond)
	}
	t.Errorf("P29.2: %d goroutines, where there were %d", runtime.NumGoroutine(), before)
}
