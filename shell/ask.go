package shell

import (
	"strconv"
	"strings"

	"tableau/api"
	"tableau/driver"
	"tableau/presolve"
	"tableau/rat"
	"tableau/text"
)

// The commands that leave the model as it is.

func (s *Shell) setScript(g given) (string, api.Errno) {
	if e := presolve.CheckScript(g.passes); e != api.OK {
		return "", e
	}
	s.script = g.passes
	return strconv.Itoa(len(s.script)), api.OK
}

func (s *Shell) sweep(given) (string, api.Errno) {
	r, e := presolve.Run(s.m, s.script)
	switch r.Outcome.Kind {
	case api.Empty:
		return "empty", e
	case api.Pending:
		return "pending", e
	}
	return strings.Join([]string{"went", strconv.Itoa(len(r.Model.Cols)), strconv.Itoa(len(r.Model.Rows))}, blank), e
}

func (s *Shell) auto(g given) (string, api.Errno) {
	_, codes, e := presolve.Auto(s.m, g.count)
	if e != api.OK {
		return "", e
	}
	s.script = codes
	var names []string
	for _, code := range codes {
		names = append(names, presolve.Names()[code-1])
	}
	return strings.Join(names, blank), api.OK
}

func (s *Shell) solve(given) (string, api.Errno) {
	a, e := driver.Solve(s.m, s.script)
	if e != api.OK {
		return "", e
	}
	s.answer = a
	return driver.Headline(a), api.OK
}

func (s *Shell) value(g given) (string, api.Errno) {
	switch s.answer.Status {
	case api.Optimal:
		return rat.Text(s.answer.Point.X[g.cols[0]])
	case api.Unbounded:
		return rat.Text(s.answer.Ray.X[g.cols[0]])
	}
	return "", api.ErrNone
}

func (s *Shell) report(given) (string, api.Errno) {
	if s.answer.Status == 0 {
		return "", api.ErrNone
	}
	return driver.Report(s.m, s.answer)
}

func (s *Shell) print(given) (string, api.Errno) { return text.Print(s.m) }
