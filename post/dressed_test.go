package post_test

import (
	"testing"

	"tableau/api"
	"tableau/ext"
	"tableau/model"
	"tableau/rat"
	"tableau/sample"
	"tableau/simplex"
	"tableau/trial"
)

// A dress puts behind the columns and rows of a model what the pass of a code takes out again; but what it puts there for tighten stays.
type dress struct {
	code int
	put  func(m *api.Model, seed int)
	stay int // so many rows
}

func dresses() []dress {
	return []dress{{api.PassSingle, putSingle, 0}, {api.PassFixed, putFixed, 0}, {api.PassTwin, putTwin, 0}, {api.PassTighten, putTight, 1}}
}

// putSingle: a row of one term, which bears one bound of its column; the column has none there.
func putSingle(m *api.Model, seed int) {
	if len(m.Cols) == 0 {
		return
	}
	j := seed % len(m.Cols)
	c := &m.Cols[j]
	r := sample.Row("dress", sample.Low(), sample.High(), sample.Term(j, -2))
	if seed/2%2 == 0 {
		r.Hi, _ = ext.Scale(c.Lo, rat.Of(-2))
		c.Lo = sample.Low()
	} else {
		r.Lo, _ = ext.Scale(c.Hi, rat.Of(-2))
		c.Hi = sample.High()
	}
	m.Rows = append(m.Rows, r)
}

// putFixed: a column that is 2, with a term in each row.
func putFixed(m *api.Model, seed int) {
	n := len(m.Cols)
	m.Cols = append(m.Cols, sample.Col("dress", 3, sample.At(2), sample.At(2)))
	m.Offset, _ = rat.Sub(m.Offset, rat.Of(6))
	for i := range m.Rows {
		a := 1 + (seed+i)%3
		r := &m.Rows[i]
		r.Terms = append(r.Terms, sample.Term(n, a))
		r.Lo, _ = ext.Shift(r.Lo, rat.Of(2*a))
		r.Hi, _ = ext.Shift(r.Hi, rat.Of(2*a))
	}
}

// putTwin: a row that is -3 times another one, which bears that one's bounds.
func putTwin(m *api.Model, seed int) {
	if len(m.Rows) == 0 || len(m.Rows[seed%len(m.Rows)].Terms) == 0 {
		return
	}
	r := &m.Rows[seed%len(m.Rows)]
	by := rat.Of(-3)
	own := api.Row{Name: "dress"}
	own.Lo, _ = ext.Scale(r.Hi, by)
	own.Hi, _ = ext.Scale(r.Lo, by)
	for _, t := range r.Terms {
		a, _ := rat.Mul(by, t.A)
		own.Terms = append(own.Terms, api.Term{Col: t.Col, A: a})
	}
	r.Lo, r.Hi = sample.Low(), sample.High()
	m.Rows = append(m.Rows, own)
}

// putTight: the same row: it implies that bound. Without columns a row that asks nothing.
func putTight(m *api.Model, seed int) {
	if len(m.Cols) > 0 {
		putSingle(m, seed)
	} else {
		m.Rows = append(m.Rows, sample.Row("dress", sample.Low(), sample.High()))
	}
}

// behind: an answer of a model as one of the same model with so many rows more, whose multipliers are 0.
func behind(a api.Answer, rows int) api.Answer {
	for range rows {
		switch a.Status {
		case api.Optimal:
			a.Point.Y = append(a.Point.Y, rat.Of(0))
			a.Basis.Rows = append(a.Basis.Rows, api.Basic)
		case api.Infeasible:
			a.Cert.RowLo, a.Cert.RowHi = append(a.Cert.RowLo, rat.Of(0)), append(a.Cert.RowHi, rat.Of(0))
		}
	}
	return a
}

// TestDressed: answers that were made ahead of their models, not by simplex, are taken back to models of which a pass leaves them: each status, with bounds that were tightened and without.
func TestDressed(t *testing.T) {
	c, by := count{}, [8]int{}
	for _, of := range trial.Samples() {
		if len(of.M.Cols) > 20 {
			continue
		}
		for seed := range 48 {
			d := dresses()[seed%4]
			m, _ := model.Copy(of.M)
			d.put(&m, seed/4)
			r := run(t, m, d.code)
			for _, a := range answers(of.M, of.K) {
				own := behind(a, d.stay)
				if is, _ := simplex.Judge(r.Model, own); is && r.Outcome.Kind == api.Went {
					c.finished(t, m, r, own)
					by[d.code]++
				}
			}
		}
	}
	c.check(t, 100, "Went: 1", "Went, tightened: 1", "Went: 2", "Went, tightened: 2", "Went: 3", "Went, tightened: 3")
	for _, d := range dresses() {
		if by[d.code] < 100 {
			t.Errorf("only %d answers by the pass %d were tried", by[d.code], d.code)
		}
	}
}
