package trial_test

import (
	"strings"
	"testing"

	"tableau/api"
	"tableau/fixed"
	"tableau/model"
	"tableau/rat"
	"tableau/sample"
	"tableau/single"
	"tableau/stack"
	"tableau/text"
	"tableau/trial"
)

// bent is a step by which nothing becomes of anything, but for one thing, which it bends.
type bent struct {
	stack.Stays
	how string
}

func more(list []api.Rat) []api.Rat {
	if len(list) > 0 {
		list[0], _ = rat.Add(list[0], rat.Of(1))
	}
	return list
}

func (b bent) Primal(x []api.Rat) []api.Rat {
	if b.how == "Primal" {
		return more(x)
	}
	return x
}

func (b bent) Lift(d []api.Rat) []api.Rat {
	if b.how == "Lift" {
		return more(d)
	}
	return d
}

func (b bent) Dual(p api.Point) api.Point {
	switch b.how {
	case "Dual's X":
		p.X = more(p.X)
	case "Dual's Y":
		p.Y = more(p.Y)
	case "Dual's Z":
		p.Z = more(p.Z)
	}
	return p
}

func (b bent) Basis(c stack.Corner) stack.Corner {
	switch {
	case b.how == "Basis's Point":
		c.Point.Z = more(c.Point.Z)
	case b.how == "Basis's Cols" && len(c.Basis.Cols) > 0:
		c.Basis.Cols[0] ^= 1
	case b.how == "Basis's Rows" && len(c.Basis.Rows) > 0:
		c.Basis.Rows[0] ^= 1
	}
	return c
}

func (b bent) Cert(c api.Cert) api.Cert {
	switch b.how {
	case "Cert's RowLo":
		c.RowLo = more(c.RowLo)
	case "Cert's ColHi":
		c.ColHi = more(c.ColHi)
	}
	return c
}

func (b bent) Gone() (cols, rows int) {
	if b.how == "Gone" {
		return 0, 1
	}
	return 0, 0
}

func (b bent) Tightens() bool { return b.how == "Tightens" }

// bending: a pass that pushes such a step, or bends what it answers.
func bending(how string) trial.Sweep {
	return func(m api.Model, s *stack.Stack) (api.Model, api.Outcome, api.Errno) {
		r, _ := model.Copy(m)
		if _, _, _, k := s.Size(); how != "Gone" || k > 0 {
			s.Push(bent{how: how})
		}
		o := api.Outcome{Kind: api.Went}
		switch {
		case how == "value":
			r.Offset, _ = rat.Add(r.Offset, rat.Of(1))
		case how == "status" && len(r.Cols) > 0:
			r.Cols[0].Lo, r.Cols[0].Hi = sample.At(1), sample.At(0)
		case how == "model":
			r.Offset = api.Rat{}
		case how == "kind":
			o.Kind = 0
		case how == "D":
			o.D = []api.Rat{rat.Of(0)}
		case how == "Cert beside":
			o.Cert.ColLo = []api.Rat{rat.Of(0)}
		case how == "Empty":
			n, k := noughts(len(r.Cols)), noughts(len(r.Rows))
			o = api.Outcome{Kind: api.Empty, Cert: api.Cert{RowLo: k, RowHi: k, ColLo: n, ColHi: n}}
		case strings.HasPrefix(how, "Pending"):
			return pending(r, how)
		case how == "error":
			return r, o, api.ErrFull
		}
		return r, o, api.OK
	}
}

// pending: the first column goes where its cost likes it, as if nothing held it; or that, bent.
func pending(r api.Model, how string) (api.Model, api.Outcome, api.Errno) {
	o := api.Outcome{Kind: api.Pending, D: noughts(len(r.Cols))}
	if len(r.Cols) > 0 && how != "Pending without a way" {
		o.D[0] = rat.Of(1)
		if !r.Cols[0].Cost.Neg {
			o.D[0] = rat.Of(-1)
		}
	}
	for i := range r.Cols {
		if how != "Pending with costs" {
			r.Cols[i].Cost = rat.Of(0)
		}
	}
	if how != "Pending with an offset" {
		r.Offset = rat.Of(0)
	}
	switch {
	case how == "Pending with a D too long":
		o.D = append(o.D, rat.Of(0))
	case how == "Pending with a Cert":
		o.Cert.RowHi = []api.Rat{rat.Of(0)}
	case how == "Pending with another model" && len(r.Cols) > 0:
		r.Cols[0].Lo, r.Cols[0].Hi = sample.Low(), sample.High()
	case how == "Pending without a point" && len(r.Cols) > 0:
		r.Cols[0].Lo, r.Cols[0].Hi = sample.At(1), sample.At(0)
	}
	return r, o, api.OK
}

// falls: models whose first column falls without end, with a point and without.
func falls() []api.Model {
	var out []api.Model
	for _, s := range []string{
		"min 1\ncol x 1 -inf 3\ncol y 2 0 4\nrow r -inf 5 1 x 1 y\nend\n",
		"min 1\ncol x 1 -inf 3\ncol y 2 5 4\nrow r -inf 5 1 x 1 y\nend\n",
		"min 2\ncol x 2 -inf inf\ncol y 0 0 1\nrow r 7 inf -1 x\nrow q 1 2\nend\n",
	} {
		m, _, _ := text.Parse(s)
		out = append(out, m)
	}
	return out
}

// TestPending: a direction that is pending, and each thing that is bent about it.
func TestPending(t *testing.T) {
	faults := func(how string, sweeps ...trial.Sweep) int {
		count := 0
		for _, m := range falls() {
			k, o, fault := trial.Way(m, append(sweeps, bending(how))...)
			if fault != "" {
				count++
			} else if o.Kind != api.Pending || len(k.Points)+len(k.Certs) == 0 {
				t.Errorf("%q: the outcome %d, %v", how, o.Kind, k)
			}
		}
		return count
	}
	if n := faults("Pending"); n > 0 {
		t.Errorf("%d faults", n)
	}
	for _, how := range []string{
		"Pending without a way", "Pending with costs", "Pending with an offset", "Pending with a D too long", "Pending with a Cert", "Pending with another model", "Pending without a point",
	} {
		if faults(how) == 0 {
			t.Errorf("%q: no fault is found", how)
		}
	}
	for _, how := range []string{"Primal", "Lift", "Cert's RowLo", "Cert's ColHi", "Gone"} {
		if faults("Pending", bending(how)) == 0 {
			t.Errorf("%q, ahead of a direction that is pending: no fault is found", how)
		}
	}
	for _, m := range falls() {
		m.Cols[0].Cost = rat.Of(0)
		if _, _, fault := trial.Way(m, bending("Pending")); fault == "" {
			t.Errorf("the value does not fall, and no fault is found")
		}
		m.Cols[0].Cost, m.Cols[0].Lo = rat.Of(1), sample.At(-9)
		if _, _, fault := trial.Way(m, bending("Pending")); fault == "" {
			t.Errorf("the direction doesn't recede, and no fault is found")
		}
	}
}

func noughts(n int) []api.Rat {
	var out []api.Rat
	for range n {
		out = append(out, rat.Of(0))
	}
	return out
}

// TestBent: each thing that is bent is found out, and nothing else is.
func TestBent(t *testing.T) {
	faults := func(how string) int {
		count := 0
		for seed := range 150 {
			if _, _, fault := trial.Way(sample.Prunable(seed), fixed.Sweep, bending(how)); fault != "" {
				count++
			}
		}
		return count
	}
	for _, how := range []string{"", "Tightens"} {
		if n := faults(how); n > 0 {
			t.Errorf("%q: %d faults", how, n)
		}
	}
	for _, how := range []string{
		"Primal", "Lift", "Dual's X", "Dual's Y", "Dual's Z", "Basis's Point", "Basis's Cols", "Basis's Rows", "Cert's RowLo", "Cert's ColHi",
		"Gone", "value", "status", "model", "kind", "D", "Cert beside", "Empty", "error",
	} {
		if faults(how) == 0 {
			t.Errorf("%q: no fault is found", how)
		}
	}
}

// TestKnown: all that is known of a model is as it is said to be: so it is taken back as it is by a stack without steps.
func TestKnown(t *testing.T) {
	for seed := range 200 {
		m := sample.Prunable(seed)
		s, _ := stack.New(len(m.Cols), len(m.Rows))
		if fault := trial.Fault(m, m, s, trial.Of(m)); fault != "" {
			t.Errorf("of %v: %s", m, fault)
		}
	}
	for _, k := range trial.Samples() {
		s, _ := stack.New(len(k.M.Cols), len(k.M.Rows))
		if len(k.M.Cols) > 20 {
			continue
		}
		if fault := trial.Fault(k.M, k.M, s, k.K); fault != "" {
			t.Errorf("of %v: %s", k.M, fault)
		}
	}
}

// TestRules: passes that break the rules of errors or of memory are found out.
func TestRules(t *testing.T) {
	for how, sweep := range map[string]trial.Sweep{
		"asks nothing": func(m api.Model, s *stack.Stack) (api.Model, api.Outcome, api.Errno) {
			return api.Model{}, api.Outcome{}, api.OK
		},
		"asks the model alone": func(m api.Model, s *stack.Stack) (api.Model, api.Outcome, api.Errno) {
			r, e := model.Copy(m)
			return r, api.Outcome{}, e
		},
		"asks the stack first": func(m api.Model, s *stack.Stack) (api.Model, api.Outcome, api.Errno) {
			if e := s.Fits(len(m.Cols), len(m.Rows)); e != api.OK {
				return api.Model{}, api.Outcome{}, e
			}
			return single.Sweep(m, s)
		},
		"an outcome beside the error": func(m api.Model, s *stack.Stack) (api.Model, api.Outcome, api.Errno) {
			r, o, e := single.Sweep(m, s)
			o.Kind = api.Went
			return r, o, e
		},
		"a model beside the error": func(m api.Model, s *stack.Stack) (api.Model, api.Outcome, api.Errno) {
			r, o, e := single.Sweep(m, s)
			r.Cols = append(r.Cols, sample.Col("w", 1, sample.At(0), sample.At(1)))
			return r, o, e
		},
		"a step beside the error": func(m api.Model, s *stack.Stack) (api.Model, api.Outcome, api.Errno) {
			r, o, e := single.Sweep(m, s)
			if e == api.ErrUnlike {
				s.Push(bent{how: "Tightens"})
			}
			return r, o, e
		},
	} {
		if trial.ErrorFault(sweep) == "" {
			t.Errorf("%s: no fault is found", how)
		}
	}
	for how, sweep := range map[string]trial.Sweep{
		"answers what it is handed": func(m api.Model, s *stack.Stack) (api.Model, api.Outcome, api.Errno) {
			return m, api.Outcome{}, api.OK
		},
		"keeps what it is handed": func(m api.Model, s *stack.Stack) (api.Model, api.Outcome, api.Errno) {
			r, _ := model.Copy(m)
			s.Push(keeping{at: m.Offset})
			return r, api.Outcome{}, api.OK
		},
		"keeps what it answers": func(m api.Model, s *stack.Stack) (api.Model, api.Outcome, api.Errno) {
			r, _ := model.Copy(m)
			s.Push(keeping{at: r.Offset})
			return r, api.Outcome{}, api.OK
		},
		"hands out what a step keeps": func(m api.Model, s *stack.Stack) (api.Model, api.Outcome, api.Errno) {
			r, _ := model.Copy(m)
			s.Push(keeping{at: rat.Copy(r.Offset), bare: true})
			return r, api.Outcome{}, api.OK
		},
		"changes what it is handed": func(m api.Model, s *stack.Stack) (api.Model, api.Outcome, api.Errno) {
			r, _ := model.Copy(m)
			m.Cols[0].Cost = rat.Of(77)
			return r, api.Outcome{}, api.OK
		},
	} {
		if trial.MemoryFault(sweep, sample.Three()) == "" {
			t.Errorf("%s: no fault is found", how)
		}
	}
}

// keeping is a step that puts a number into Primal's list: a copy of it, or the very one that it keeps.
type keeping struct {
	bent
	at   api.Rat
	bare bool
}

func (k keeping) Primal(x []api.Rat) []api.Rat {
	x[0] = rat.Copy(k.at)
	if k.bare {
		x[0] = k.at
	}
	return x
}
