package presolve_test

import (
	"math/big"
	"slices"
	"strings"
	"testing"

	"tableau/api"
	"tableau/basis"
	"tableau/dual"
	"tableau/farkas"
	"tableau/point"
	"tableau/presolve"
	"tableau/ray"
	"tableau/stack"
	"tableau/trial"
)

// among: of numbers of the first rows those of others, by their names; 0 of rows that were put in for tighten, which stay. Nothing, if other rows have come, or rows have gone.
func among(list []api.Rat, rows, others []api.Row) ([]api.Rat, bool) {
	var out []api.Rat
	found := 0
	for _, r := range others {
		place := slices.IndexFunc(rows, func(q api.Row) bool { return q.Name == r.Name })
		switch {
		case place >= 0:
			out = append(out, list[place])
			found++
		case strings.HasPrefix(r.Name, "tighten"):
			out = append(out, fromBig(new(big.Rat)))
		default:
			return nil, false
		}
	}
	return out, found == len(rows)
}

// sameNames: are the columns the same, by their names?
func sameNames(a, b []api.Col) bool {
	return slices.EqualFunc(a, b, func(c, d api.Col) bool { return c.Name == d.Name })
}

// still: what of all that is known of a model is known of r, too, which has its columns and rows, and perhaps some that were put in for tighten. The checkers tell; what they don't say of r is left out.
func still(of trial.Sampled, r api.Model) trial.Known {
	var out trial.Known
	if !sameNames(of.M.Cols, r.Cols) {
		return out
	}
	rows := func(list []api.Rat) []api.Rat {
		l, _ := among(list, of.M.Rows, r.Rows)
		return l
	}
	for _, x := range of.K.Points {
		if is, _ := point.Feasible(r, x); is {
			out.Points = append(out.Points, x)
		}
	}
	for _, d := range of.K.Dirs {
		if is, _ := ray.Recedes(r, d); is {
			out.Dirs = append(out.Dirs, d)
		}
	}
	for _, p := range of.K.Kkts {
		p.Y = rows(p.Y)
		if is, _ := dual.Holds(r, p); is {
			out.Kkts = append(out.Kkts, p)
		}
	}
	for _, c := range of.K.Certs {
		c.RowLo, c.RowHi = rows(c.RowLo), rows(c.RowHi)
		if is, _ := farkas.Valid(r, c); is {
			out.Certs = append(out.Certs, c)
		}
	}
	for _, c := range of.K.Bases {
		if is, _ := basis.Optimal(r, c.Basis, c.Point); is {
			out.Bases = append(out.Bases, c)
		}
	}
	return out
}

// grown: of a model and a script another model, of which the script should leave that one.
func grown(of trial.Sampled, script []int, seed uint64) api.Model {
	var x []api.Rat
	switch {
	case len(of.K.Kkts) > 0:
		x = of.K.Kkts[0].X
	case len(of.K.Points) > 0:
		x = of.K.Points[0]
	}
	g := growing(of.M, x, seed)
	for _, code := range slices.Backward(script) {
		for range 1 + g.IntN(2) {
			g.put(code)
		}
	}
	return g.model()
}

// leans: does the way back change what the rows bear?
func leans(s *stack.Stack, k trial.Known) bool {
	for _, p := range k.Kkts {
		if q, _ := s.Dual(p); slices.ContainsFunc(q.Y, func(y api.Rat) bool {
			return len(y.Num) > 0 && !slices.ContainsFunc(p.Y, func(r api.Rat) bool { return sameRat(r, y) })
		}) {
			return true
		}
	}
	return false
}

// TestGrown: what is known of a model, not from simplex, is taken back to models of which a script leaves it: with all passes, and long numbers.
func TestGrown(t *testing.T) {
	c := count{}
	for i, of := range trial.Samples() {
		if len(of.M.Cols) > 20 {
			continue
		}
		for turn := range 24 {
			seed := 24*i + turn
			script := drawnScript(seed, 4)
			m := grown(of, script, uint64(seed))
			r, e := presolve.Run(m, script)
			if e != api.OK {
				t.Fatalf("P25.2: of %v: Run(%v): %d", m, script, e)
			}
			k := still(of, r.Model)
			if r.Outcome.Kind != api.Went || len(k.Points)+len(k.Dirs)+len(k.Kkts)+len(k.Certs) == 0 {
				c["nothing known"]++
				continue
			}
			if fault := trial.Fault(m, r.Model, r.Stack, k); fault != "" {
				t.Fatalf("P6, P7: of %v by %v: %s", m, script, fault)
			}
			c.tally(r.Stack, k, script)
		}
	}
	c.check(t, 100, "points", "directions", "KKT points", "bases", "certificates", "tightened", "leaning")
	c.check(t, 100, "code 1", "code 2", "code 3", "code 4", "code 5", "code 6", "code 7")
}

func (c count) tally(s *stack.Stack, k trial.Known, script []int) {
	c["points"] += len(k.Points)
	c["directions"] += len(k.Dirs)
	c["KKT points"] += len(k.Kkts)
	c["certificates"] += len(k.Certs)
	if s.Tightened() {
		c["tightened"]++
	} else {
		c["bases"] += len(k.Bases)
	}
	if leans(s, k) {
		c["leaning"]++
	}
	for _, code := range script {
		c["code "+string(rune('0'+code))]++
	}
}
