package stack_test

import (
	"slices"
	"testing"

	"tableau/api"
	"tableau/fixed"
	"tableau/guard"
	"tableau/sample"
	"tableau/single"
	"tableau/stack"
	"tableau/trial"
)

// pushed: a stack of that size with these steps.
func pushed(t *testing.T, cols, rows int, steps ...stack.Step) *stack.Stack {
	t.Helper()
	s := made(t, cols, rows)
	for _, step := range steps {
		s.Push(step)
	}
	return s
}

// TestRow: a row that asked nothing comes back at its place, at the first, at the last, and between.
func TestRow(t *testing.T) {
	for place := range 4 {
		s := pushed(t, 2, 4, stack.Row{At: place})
		if a, b, n, k := s.Size(); a != 2 || b != 4 || n != 2 || k != 3 || s.Tightened() {
			t.Errorf("P17.1: Size = %d, %d, %d, %d, Tightened = %v", a, b, n, k, s.Tightened())
		}
		in, want := fitting(2, 3), fitting(2, 3)
		for _, list := range []*[]api.Rat{&want.p.Y, &want.q.Y, &want.c.RowLo, &want.c.RowHi} {
			*list = slices.Insert(*list, place, sample.Frac(0, 1))
		}
		want.b.Rows = slices.Insert(want.b.Rows, place, api.Basic)
		checkOutput(t, "P17.3, P17.4: a row", ask(s, in), want, all(api.OK))
	}
}

// TestColumn: a column that went with a number comes back at its place: its reduced cost and its multipliers follow from the rows'.
func TestColumn(t *testing.T) {
	m := read(t, "min 0 / col x 2 0 1 / col y 5 3/2 7 / col z 1 0 1 / row r 0 1 1 x 2 y / row q 0 1 1 z / row p 0 1 -3 y")
	at := sample.Frac(3, 2)
	s := pushed(t, 3, 3, stack.NewColumn(m, 1, at, api.Lower))
	if a, b, n, k := s.Size(); a != 3 || b != 3 || n != 2 || k != 3 || s.Tightened() {
		t.Errorf("P17.1: Size = %d, %d, %d, %d, Tightened = %v", a, b, n, k, s.Tightened())
	}
	behind := func(x []api.Rat, v api.Rat) []api.Rat { return []api.Rat{x[0], v, x[1]} }
	for _, c := range []struct {
		y          []api.Rat
		z          int // 5 - 2 y[0] + 3 y[2]
		rowLo      []api.Rat
		rowHi      []api.Rat
		colLo, hiZ int // of 2 (lo - hi)[0] - 3 (lo - hi)[2]: what takes it up
	}{
		{nums(0, 9, 0), 5, nums(0, 4, 0), nums(0, 3, 0), 0, 0},
		{nums(1, 0, 2), 9, nums(1, 2, 0), nums(0, 0, 0), 0, 2},
		{nums(4, -1, -1), -6, nums(1, 0, 5), nums(3, 3, 1), 16, 0},
		{nums(-2, 1, -3), 0, nums(3, 0, 2), nums(0, 0, 0), 0, 0},
		{nums(-2, 1, -2), 3, nums(3, 0, 2), nums(4, 0, 0), 8, 0},
		{nums(1, 1, 1), 6, nums(5, 0, 2), nums(1, 7, 9), 0, 29},
	} {
		in, want := fitting(2, 3), fitting(2, 3)
		in.p.Y, in.q.Y, in.c.RowLo, in.c.RowHi = c.y, c.y, c.rowLo, c.rowHi
		want.x, want.d = behind(in.x, at), behind(in.d, sample.Frac(0, 1))
		want.p = api.Point{X: behind(in.p.X, at), Y: c.y, Z: behind(in.p.Z, nums(c.z)[0])}
		want.q = api.Point{X: behind(in.q.X, at), Y: c.y, Z: behind(in.q.Z, nums(c.z)[0])}
		want.b.Cols = []api.Status{in.b.Cols[0], api.Lower, in.b.Cols[1]}
		want.c = api.Cert{RowLo: c.rowLo, RowHi: c.rowHi, ColLo: behind(in.c.ColLo, nums(c.colLo)[0]), ColHi: behind(in.c.ColHi, nums(c.hiZ)[0])}
		checkOutput(t, "P17.3, P17.4: a column", ask(s, in), want, all(api.OK))
	}
}

// TestEquation: a column that went with the equation that tells it comes back with it: the equation bears what the other rows leave of the column.
func TestEquation(t *testing.T) {
	// z is (4 - x - 3 w) / 2.
	m := read(t, "min 0 / col x 2 0 1 / col z 5 -inf inf / col w 1 0 1 / row r 0 1 1 x 2 z / row q 4 4 1 x 2 z 3 w / row p 0 1 -4 z")
	s := pushed(t, 3, 3, stack.NewEquation(m, 1, 1))
	if a, b, n, k := s.Size(); a != 3 || b != 3 || n != 2 || k != 2 || s.Tightened() {
		t.Errorf("P17.1: Size = %d, %d, %d, %d, Tightened = %v", a, b, n, k, s.Tightened())
	}
	behind := func(x []api.Rat, v api.Rat) []api.Rat { return []api.Rat{x[0], v, x[1]} }
	for _, c := range []struct {
		x, d         []api.Rat
		z            api.Rat // (4 - x - 3 w) / 2
		move         api.Rat // (- x - 3 w) / 2
		y            []api.Rat
		bears        api.Rat // (5 - 2 y[0] + 4 y[1]) / 2
		rowLo, rowHi []api.Rat
		lo, hi       int // of -(2 (lo - hi)[0] - 4 (lo - hi)[1]) / 2
	}{
		{nums(0, 0), nums(0, 0), sample.Frac(2, 1), sample.Frac(0, 1), nums(0, 0), sample.Frac(5, 2), nums(0, 0), nums(0, 0), 0, 0},
		{nums(1, 2), nums(2, -3), sample.Frac(-3, 2), sample.Frac(7, 2), nums(1, 2), sample.Frac(11, 2), nums(1, 0), nums(0, 0), 0, 1},
		{nums(-4, 0), nums(-1, 0), sample.Frac(4, 1), sample.Frac(1, 2), nums(3, -1), sample.Frac(-5, 2), nums(0, 3), nums(2, 1), 6, 0},
		{nums(4, 0), nums(0, 1), sample.Frac(0, 1), sample.Frac(-3, 2), nums(0, -2), sample.Frac(-3, 2), nums(6, 3), nums(0, 0), 0, 0},
	} {
		in, want := fitting(2, 2), fitting(2, 2)
		in.x, in.d, in.p.X, in.q.X = c.x, c.d, c.x, c.x
		in.p.Y, in.q.Y, in.c.RowLo, in.c.RowHi = c.y, c.y, c.rowLo, c.rowHi
		want.x, want.d = behind(c.x, c.z), behind(c.d, c.move)
		want.p = api.Point{X: want.x, Y: behind(c.y, c.bears), Z: behind(in.p.Z, nums(0)[0])}
		want.q = api.Point{X: want.x, Y: behind(c.y, c.bears), Z: behind(in.q.Z, nums(0)[0])}
		want.b = api.Basis{Cols: []api.Status{in.b.Cols[0], api.Basic, in.b.Cols[1]}, Rows: []api.Status{in.b.Rows[0], api.Lower, in.b.Rows[1]}}
		want.c = api.Cert{RowLo: behind(c.rowLo, nums(c.lo)[0]), RowHi: behind(c.rowHi, nums(c.hi)[0]), ColLo: behind(in.c.ColLo, nums(0)[0]), ColHi: behind(in.c.ColHi, nums(0)[0])}
		checkOutput(t, "P17.3, P17.4: an equation", ask(s, in), want, all(api.OK))
	}
}

// TestEquationKeeps: nor does an equation that went keep memory of its model.
func TestEquationKeeps(t *testing.T) {
	own := guard.Model(read(t, "min 0 / col x 2 0 1 / col z 5 -inf inf / col w 1 0 1 / row r 0 1 1 x 2 z / row q 4 4 1 x 2 z 3 w"))
	s := pushed(t, 3, 2, stack.NewEquation(own, 1, 1))
	before := trial.Told(s)
	for _, r := range []api.Rat{own.Cols[1].Cost, own.Rows[1].Lo.V, own.Rows[1].Hi.V, own.Rows[0].Terms[1].A, own.Rows[1].Terms[0].A, own.Rows[1].Terms[1].A, own.Rows[1].Terms[2].A} {
		r.Num[0] += 10
		r.Den[0] += 10
	}
	own.Rows[1].Terms[0].Col, own.Rows[0].Terms[1].Col = 2, 7
	if trial.Told(s) != before {
		t.Errorf("P17.5: what the stack tells has changed with the model")
	}
	if fault := trial.StackFault(s); fault != "" {
		t.Errorf("P17.5: %s", fault)
	}
}

// TestSides: a multiplier as that of one bound.
func TestSides(t *testing.T) {
	for i, r := range sample.Rats() {
		lo, hi := r, sample.Frac(0, 1)
		if r.Neg {
			lo, hi = hi, sample.Rats()[i]
			hi.Neg = false
		}
		if a, b := stack.Sides(r); !sameRat(a, lo) || !sameRat(b, hi) {
			t.Errorf("Sides(%v) = %v, %v", r, a, b)
		}
	}
}

// TestKeeps: a column that went keeps no memory of its model.
func TestKeeps(t *testing.T) {
	m := read(t, "min 0 / col x 2 3 3 / col y 5 0 7 / row r 0 1 1 x 2 y")
	for _, place := range []int{0, 1} {
		own := guard.Model(m)
		value := guard.Rat(sample.Frac(3, 1))
		s := pushed(t, 2, 1, stack.NewColumn(own, place, value, api.Lower))
		before := trial.Told(s)
		for _, list := range [][]uint64{value.Num, value.Den, own.Cols[place].Cost.Num, own.Cols[place].Cost.Den, own.Rows[0].Terms[place].A.Num, own.Rows[0].Terms[place].A.Den} {
			list[0] += 10
		}
		own.Rows[0].Terms[place].Col = 7
		if trial.Told(s) != before {
			t.Errorf("P17.5: column %d: what the stack tells has changed with the model", place)
		}
	}
}

// TestStatuses: a column comes back with the status that it went with.
func TestStatuses(t *testing.T) {
	m := read(t, "min 0 / col x 2 0 1 / col y 5 -inf inf / row r 0 1 1 x 2 y")
	for _, status := range []api.Status{api.Lower, api.Upper, api.Free} {
		s := pushed(t, 2, 1, stack.NewColumn(m, 0, sample.Frac(1, 1), status))
		b, _, e := s.Basis(api.Basis{Cols: kinds(1, 0), Rows: kinds(1, 1)}, api.Point{X: nums(1), Y: nums(0), Z: nums(0)})
		if e != api.OK || !sameBasis(b, api.Basis{Cols: []api.Status{status, api.Basic}, Rows: kinds(1, 1)}) {
			t.Errorf("P17.4: a column with the status %d: %v, %d", status, b, e)
		}
	}
}

// tight is a step that tightens a bound, and by which nothing else becomes of anything.
type tight struct{ stack.Stays }

func (tight) Dual(p api.Point) api.Point        { return p }
func (tight) Basis(c stack.Corner) stack.Corner { return c }
func (tight) Cert(c api.Cert) api.Cert          { return c }
func (tight) Gone() (cols, rows int)            { return 0, 0 }
func (tight) Tightens() bool                    { return true }

// rows: so many steps by which the first row goes.
func rows(n int) []stack.Step { return slices.Repeat([]stack.Step{stack.Row{At: 0}}, n) }

// TestTightened: behind a step that tightened there is no basis, wherever it stands; ErrForm and ErrUnlike come ahead.
func TestTightened(t *testing.T) {
	for n := range 3 {
		for m := range 3 {
			s := pushed(t, 2, 7, slices.Concat(rows(n), []stack.Step{tight{}}, rows(m))...)
			if !s.Tightened() {
				t.Errorf("P17.1: Tightened is false")
			}
			in := fitting(2, 7-n-m)
			out := ask(s, in)
			if out.errors != [5]api.Errno{3: api.ErrPass} || len(out.p.Y) != 7 || len(out.q.X) > 0 || len(out.b.Cols) > 0 {
				t.Errorf("P17.4: behind a step that tightened: %v", out)
			}
			in.q.Y = nums(1)
			if e := ask(s, in).errors[3]; e != api.ErrUnlike {
				t.Errorf("P17.4: a list too short behind a step that tightened: %d", e)
			}
			in.b.Rows = []api.Status{7}
			if e := ask(s, in).errors[3]; e != api.ErrForm {
				t.Errorf("P17.4: a status behind a step that tightened: %d", e)
			}
		}
	}
	if pushed(t, 2, 7, rows(3)...).Tightened() {
		t.Errorf("P17.1: Tightened is true")
	}
}

// TestOrder: the last step comes first on the way back: places are those of the model ahead of each step.
func TestOrder(t *testing.T) {
	m := read(t, "min 0 / col a 0 1 1 / col b 0 2 2 / col c 0 3 3 / col d 0 4 4 / col e 0 5 5")
	s := made(t, 5, 0)
	for _, place := range []int{1, 3, 0} {
		s.Push(stack.NewColumn(m, place, nums(10 + place)[0], api.Lower))
	}
	x, e := s.Primal(nums(-1, -2))
	if e != api.OK || !sameRats(x, nums(10, 11, -1, -2, 13)) {
		t.Errorf("P17.5: Primal = %v, %d", x, e)
	}
	d, e := s.Lift(nums(-1, -2))
	if e != api.OK || !sameRats(d, nums(0, 0, -1, -2, 0)) {
		t.Errorf("P17.5: Lift = %v, %d", d, e)
	}
	s = made(t, 0, 4)
	for _, place := range []int{2, 0} {
		s.Push(stack.Row{At: place})
	}
	if p, e := s.Dual(api.Point{Y: nums(7, 8)}); e != api.OK || !sameRats(p.Y, nums(0, 7, 0, 8)) {
		t.Errorf("P17.5: Dual = %v, %d", p, e)
	}
}

// TestFits: it is R that is asked for.
func TestFits(t *testing.T) {
	s := pushed(t, 2, 4, stack.Row{At: 1})
	for _, c := range []struct {
		cols, rows int
		want       api.Errno
	}{{2, 3, api.OK}, {2, 4, api.ErrUnlike}, {3, 3, api.ErrUnlike}, {3, 2, api.ErrUnlike}, {-1, 3, api.ErrUnlike}} {
		if e := s.Fits(c.cols, c.rows); e != c.want {
			t.Errorf("Fits(%d, %d) = %d, want %d", c.cols, c.rows, e, c.want)
		}
	}
}

// TestSweeps: over several sweeps on one stack columns keep the numbers of R, by their names, or have the number with which they went; rows that are R's keep their multipliers where nothing leans on others.
func TestSweeps(t *testing.T) {
	went := 0
	for seed := range 600 {
		m := sample.Prunable(seed)
		s := made(t, len(m.Cols), len(m.Rows))
		r, gone := m, map[string]api.Rat{}
		for _, sweep := range []trial.Sweep{fixed.Sweep, single.Sweep, fixed.Sweep, single.Sweep} {
			before := r
			var o api.Outcome
			r, o, _ = sweep(r, s)
			for _, c := range before.Cols {
				if !slices.ContainsFunc(r.Cols, func(d api.Col) bool { return d.Name == c.Name }) {
					gone[c.Name] = c.Lo.V
				}
			}
			if o.Kind != api.Went {
				break
			}
			checkNames(t, m, r, s, gone)
		}
		went += len(gone)
	}
	if went < 500 {
		t.Errorf("only %d columns went", went)
	}
}

// checkNames: what is told of columns and of rows stands in M's order.
func checkNames(t *testing.T, m, r api.Model, s *stack.Stack, gone map[string]api.Rat) {
	t.Helper()
	in := fitting(len(r.Cols), len(r.Rows))
	before := trial.Told(s)
	out := ask(s, in)
	for place, c := range m.Cols {
		at := slices.IndexFunc(r.Cols, func(d api.Col) bool { return d.Name == c.Name })
		x, d := gone[c.Name], sample.Frac(0, 1)
		if at >= 0 {
			x, d = in.x[at], in.d[at]
		}
		if !sameRat(out.x[place], x) || !sameRat(out.d[place], d) {
			t.Fatalf("P17.3: of %v: Primal %v, Lift %v", m, out.x, out.d)
		}
	}
	x, _ := s.Primal(in.p.X)
	if len(out.p.Y) != len(m.Rows) || !sameRats(x, out.p.X) {
		t.Fatalf("P17.4: of %v: Dual %v", m, out.p)
	}
	for place, row := range m.Rows {
		at := slices.IndexFunc(r.Rows, func(q api.Row) bool { return q.Name == row.Name })
		if at >= 0 && (!sameRat(out.p.Y[place], in.p.Y[at]) || !sameRat(out.c.RowLo[place], in.c.RowLo[at]) || !sameRat(out.c.RowHi[place], in.c.RowHi[at])) {
			t.Fatalf("P17.5: of %v: Dual %v, Cert %v", m, out.p, out.c)
		}
	}
	if trial.Told(s) != before || trial.Told(s) != before {
		t.Fatalf("P17.5: of %v: asked again, the stack tells something else", m)
	}
}
