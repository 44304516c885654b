package shell_test

import (
	"slices"
	"strconv"
	"strings"
	"testing"

	"tableau/api"
	"tableau/driver"
	"tableau/presolve"
	"tableau/sample"
	"tableau/shell"
	"tableau/text"
)

// textOf: the text of a model whose lines are cut by /, with end as the last one.
func textOf(s string) string { return strings.ReplaceAll(s, " / ", "\n") + "\nend\n" }

// TestChanges: what each command that changes the model answers, and what it makes of the model; and it leaves no answer kept, whether it changes a number or not.
func TestChanges(t *testing.T) {
	const cols, rowR = "min 3 / col x -1 0 4 / col y -1 0 4 / col z 5 2 2", "row r -inf 6 1 x 2 y"
	for _, k := range []struct{ line, answer, model string }{
		{"min 7/2", "", "min 7/2 / col x -1 0 4 / col y -1 0 4 / col z 5 2 2 / " + rowR},
		{"min -7", "", "min -7 / col x -1 0 4 / col y -1 0 4 / col z 5 2 2 / " + rowR},
		{"min 3", "", cols + " / " + rowR},
		{"col w 1/3 -inf inf", "4", cols + " / col w 1/3 -inf inf / " + rowR},
		{"col r 0 2 1", "4", cols + " / col r 0 2 1 / " + rowR},
		{"row s 1 2", "2", cols + " / " + rowR + " / row s 1 2"},
		{"row x 2 1 -3 z", "2", cols + " / " + rowR + " / row x 2 1 -3 z"},
		{"row s -inf inf 1/2 z 3 x -1 y", "2", cols + " / " + rowR + " / row s -inf inf 3 x -1 y 1/2 z"},
		{"row s 0 0 1 y 2 x", "2", cols + " / " + rowR + " / row s 0 0 2 x 1 y"},
		{"cost y 9/4", "", "min 3 / col x -1 0 4 / col y 9/4 0 4 / col z 5 2 2 / " + rowR},
		{"cost z 0", "", "min 3 / col x -1 0 4 / col y -1 0 4 / col z 0 2 2 / " + rowR},
		{"cost x -1", "", cols + " / " + rowR},
		{"bounds x -inf inf", "", "min 3 / col x -1 -inf inf / col y -1 0 4 / col z 5 2 2 / " + rowR},
		{"bounds z 3 -1/2", "", "min 3 / col x -1 0 4 / col y -1 0 4 / col z 5 3 -1/2 / " + rowR},
		{"bounds y 0 4", "", cols + " / " + rowR},
		{"range r 1 2", "", cols + " / row r 1 2 1 x 2 y"},
		{"range r -inf inf", "", cols + " / row r -inf inf 1 x 2 y"},
		{"term r x 5", "", cols + " / row r -inf 6 5 x 2 y"},
		{"term r z -1/3", "", cols + " / row r -inf 6 1 x 2 y -1/3 z"},
		{"term r y 0", "", cols + " / row r -inf 6 1 x"},
		{"term r z 0", "", cols + " / " + rowR},
		{"dropcol x", "2", "min 3 / col y -1 0 4 / col z 5 2 2 / row r -inf 6 2 y"},
		{"dropcol z", "2", "min 3 / col x -1 0 4 / col y -1 0 4 / " + rowR},
		{"droprow r", "0", cols},
	} {
		s := solved(t)
		ask(t, "P30.2", s, k.line, ok(k.answer))
		ask(t, "P30.2", s, "print", ok(textOf(k.model)))
		ask(t, "P30.2", s, "report", no(api.ErrNone, 0))
		if !strings.HasPrefix(k.line, "dropcol x") {
			ask(t, "P30.2", s, "value x", no(api.ErrNone, 0))
		}
		// The script stays: fixed takes z out, if it is there with one number as both bounds.
		if r := s.Line("sweep"); strings.Contains(k.model, "col z") && strings.Contains(k.model, " 2 2 ") && !strings.HasPrefix(r.Text, "went "+strconv.Itoa(strings.Count(k.model, "col ")-1)+" ") {
			t.Errorf("P30.2: behind %q the script leaves %q", k.line, r.Text)
		}
	}
}

// TestClear: the model and the script are as at first, and no answer is kept.
func TestClear(t *testing.T) {
	s := solved(t)
	talk(t, "P30.2", s, []said{
		{"clear", ok("")}, {"print", ok("min 0\nend\n")}, {"report", no(api.ErrNone, 0)}, {"value x", no(api.ErrName, 6)}, {"sweep", ok("went 0 0")},
		{"col z 5 2 2", ok("1")}, {"sweep", ok("went 1 0")}, {"solve", ok("optimal 10")}, {"clear", ok("")}, {"clear", ok("")}, {"solve", ok("optimal 0")}, {"report", ok("optimal 0\n")},
	})
	if state(begun(t, "min 4", "col x 1 1 1", "script fixed", "solve", "clear")) != state(shell.New()) {
		t.Error("P30.2: behind clear a shell is not like a new one")
	}
}

// TestScript: the passes, none too, and how many; the model and the answer that is kept stay.
func TestScript(t *testing.T) {
	s := solved(t)
	report := s.Line("report")
	for _, k := range []struct {
		line  string
		count int
		sweep string
	}{
		{"script", 0, "went 3 1"}, {"script fixed", 1, "went 2 1"}, {"script  tighten   fixed ", 2, "went 2 1"}, {"script single fixed dominate pairup subst twin tighten", 7, "went 0 0"},
		{"script single single", 2, "went 3 1"}, {"script" + strings.Repeat(" twin", 64), 64, "went 3 1"}, {"script", 0, "went 3 1"},
	} {
		ask(t, "P30.2", s, k.line, ok(strconv.Itoa(k.count)))
		if want, _ := presolve.Run(parsed(t, s), codes(k.line)); k.sweep == "went 0 0" {
			k.sweep = "went " + strconv.Itoa(len(want.Model.Cols)) + " " + strconv.Itoa(len(want.Model.Rows))
		}
		ask(t, "P30.2", s, "sweep", ok(k.sweep))
		ask(t, "P30.2", s, "report", report)
		ask(t, "P30.2", s, "value x", ok("4"))
	}
}

// parsed: the model that a shell prints.
func parsed(t *testing.T, s *shell.Shell) api.Model {
	t.Helper()
	m, at, e := text.Parse(s.Line("print").Text)
	if e != api.OK {
		t.Fatalf("P30.2: print answers no model: %d at %d", e, at)
	}
	return m
}

// codes: those of the passes that a line names.
func codes(line string) []int {
	var out []int
	for _, word := range strings.Fields(line) {
		if place := slices.Index([]string{"single", "fixed", "dominate", "pairup", "subst", "twin", "tighten"}, word); place >= 0 {
			out = append(out, place+1)
		}
	}
	return out
}

// TestSweep: each outcome; the model stays, and the answer that is kept.
func TestSweep(t *testing.T) {
	for _, k := range []struct {
		lines  []string
		answer string
	}{
		{nil, "went 0 0"},
		{append(first(), "script tighten single"), "went 2 1"},
		{[]string{"col x 1 -inf inf", "row r 2 2 3 x", "script single"}, "went 1 0"},
		{[]string{"col x 1 -inf inf", "row r 2 2 3 x", "script single fixed"}, "went 0 0"},
		{[]string{"row r -inf inf", "row s 0 0"}, "went 0 2"},
		{[]string{"row e 1 2", "script single"}, "empty"},
		{[]string{"row e 1 2", "col x -1 0 inf", "script single dominate"}, "empty"},
		{[]string{"row e 1 2", "col x -1 0 inf", "script dominate single"}, "pending"},
		{[]string{"col x -1 0 inf", "script dominate"}, "pending"},
	} {
		s := begun(t, append(k.lines, "solve")...)
		print, report := s.Line("print"), s.Line("report")
		for range 2 {
			ask(t, "P30.2", s, "sweep", ok(k.answer))
		}
		ask(t, "P30.2", s, "print", print)
		ask(t, "P30.2", s, "report", report)
	}
}

// TestAuto: the script is the codes that presolve.Auto answers; the model stays, and the answer that is kept.
func TestAuto(t *testing.T) {
	names := presolve.Names()
	for seed := range 60 {
		s := begun(t, linesOf(sample.Busy(seed))...)
		m := parsed(t, s)
		ask(t, "P30.2", s, "solve", s.Line("solve"))
		print, report := s.Line("print"), s.Line("report")
		for _, limit := range []int{0, 1, 2, 5, 9, 64} {
			r, codes, _ := presolve.Auto(m, limit)
			var want []string
			for _, code := range codes {
				want = append(want, names[code-1])
			}
			ask(t, "P30.2", s, "auto "+strconv.Itoa(limit), ok(strings.Join(want, " ")))
			ask(t, "P25.4", s, "sweep", ok(sweepText(r)))
			ask(t, "P30.2", s, "print", print)
			ask(t, "P30.2", s, "report", report)
		}
	}
	s := begun(t, append(first(), "script single")...)
	talk(t, "P30.2", s, []said{{"auto 0", ok("")}, {"sweep", ok("went 2 1")}, {"auto 2", ok("single fixed")}, {"auto 65", no(api.ErrArg, 0)}, {"clear", ok("")}, {"auto 64", ok("single fixed dominate pairup subst twin tighten")}})
}

// sweepText: what sweep answers of a result.
func sweepText(r presolve.Result) string {
	switch r.Outcome.Kind {
	case api.Went:
		return "went " + strconv.Itoa(len(r.Model.Cols)) + " " + strconv.Itoa(len(r.Model.Rows))
	case api.Empty:
		return "empty"
	}
	return "pending"
}

// linesOf: the lines by which a shell has that model, begun at no columns and rows.
func linesOf(m api.Model) []string {
	s, _ := text.Print(m)
	lines := strings.Split(s, "\n")
	return lines[:len(lines)-2]
}

// TestSolve: the status of the model and the value; the answer is kept, and is what driver.Solve answers by the script.
func TestSolve(t *testing.T) {
	tried := map[int]int{}
	for seed := range 200 {
		m, script := sample.Busy(seed), sample.Script(seed, 6)
		s := begun(t, linesOf(m)...)
		line := "script"
		for _, code := range script {
			line += " " + presolve.Names()[code-1]
		}
		ask(t, "P30.2", s, line, ok(strconv.Itoa(len(script))))
		a, _ := driver.Solve(m, script)
		report, _ := driver.Report(m, a)
		head, _, _ := strings.Cut(report, "\n")
		ask(t, "P30.2", s, "solve", ok(head))
		ask(t, "P30.2", s, "report", ok(report))
		var x []api.Rat
		switch tried[a.Status]++; a.Status {
		case api.Optimal:
			x = a.Point.X
		case api.Unbounded:
			x = a.Ray.X
		}
		for j, c := range m.Cols {
			want := no(api.ErrNone, 0)
			if x != nil {
				want = ok(numberText(x[j]))
			}
			ask(t, "P30.2", s, "value "+c.Name, want)
		}
		ask(t, "P30.2", s, "print", ok(strings.Join(linesOf(m), "\n")+"\nend\n"))
	}
	for status := 1; status <= 3; status++ {
		if tried[status] < 20 {
			t.Errorf("only %d models of the status %d were tried", tried[status], status)
		}
	}
}

// numberText: by the text of a model with that offset.
func numberText(r api.Rat) string {
	s, _ := text.Print(api.Model{Offset: r})
	return strings.TrimSuffix(strings.TrimPrefix(s, "min "), "\nend\n")
}

// TestKept: which commands leave the answer kept, and which don't; a new answer takes the place of an earlier one.
func TestKept(t *testing.T) {
	for _, line := range []string{"", "script", "script single", "sweep", "auto 3", "auto 0", "solve", "value x", "report", "print"} {
		s := solved(t)
		before := s.Line("report")
		if r := s.Line(line); r.E != api.OK {
			t.Errorf("P30.2: %q: %v", line, r)
		}
		ask(t, "P30.2", s, "report", before)
		ask(t, "P30.2", s, "value y", ok("1"))
	}
	s := begun(t, "col x 1 2 9", "solve")
	talk(t, "P30.2", s, []said{
		{"value x", ok("2")}, {"cost x -1", ok("")}, {"value x", no(api.ErrNone, 0)}, {"solve", ok("optimal -9")}, {"value x", ok("9")},
		{"bounds x 2 inf", ok("")}, {"solve", ok("unbounded")}, {"value x", ok("2")}, {"bounds x 2 1", ok("")}, {"solve", ok("infeasible")}, {"value x", no(api.ErrNone, 0)}, {"bounds x 2 2", ok("")}, {"solve", ok("optimal -2")}, {"value x", ok("2")},
	})
}

// TestReport: of each status; without an answer that is kept there is none.
func TestReport(t *testing.T) {
	s := begun(t, first()...)
	ask(t, "P30.2", s, "report", no(api.ErrNone, 0))
	for _, k := range []struct{ line, solved string }{
		{"min 3", "optimal -2"}, {"range r 1 0", "infeasible"}, {"bounds x 0 inf", "infeasible"}, {"range r -inf inf", "unbounded"}, {"dropcol x", "optimal -1"}, {"clear", "optimal 0"}, {"row e 1 2", "infeasible"}, {"col u -1 0 inf", "infeasible"}, {"droprow e", "unbounded"},
	} {
		if r := s.Line(k.line); r.E != api.OK {
			t.Errorf("%q: %v", k.line, r)
		}
		ask(t, "P30.2", s, "report", no(api.ErrNone, 0))
		m := parsed(t, s)
		a, _ := driver.Solve(m, nil)
		report, e := driver.Report(m, a)
		if e != api.OK || !strings.HasPrefix(report, k.solved+"\n") {
			t.Errorf("P28.2: behind %q: %q, %d", k.line, report, e)
		}
		for range 2 {
			ask(t, "P30.2", s, "solve", ok(k.solved))
			ask(t, "P30.2", s, "report", ok(report))
		}
	}
}

// TestPrint: the model's text, which the shell takes again line by line, but for end.
func TestPrint(t *testing.T) {
	models := sample.Models()
	for seed := range 60 {
		models = append(models, sample.Busy(seed))
	}
	for i, m := range models {
		want, e := text.Print(m)
		if e != api.OK {
			t.Fatalf("text.Print(%v): %d", m, e)
		}
		s := shell.New()
		for _, line := range linesOf(m) {
			if r := s.Line(line); r.E != api.OK || r.At != 0 {
				t.Errorf("P30.2: of the model %d: %q: %v", i, line, r)
			}
		}
		ask(t, "P30.2", s, "print", ok(want))
		ask(t, "P30.3", s, "end", no(api.ErrName, 0))
	}
}
