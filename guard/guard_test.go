package guard_test

import (
	"strings"
	"testing"

	"tableau/api"
	"tableau/guard"
)

func number(n uint64) api.Rat { return api.Rat{Num: []uint64{n}, Den: []uint64{1}} }

// TestFault: each way to break the rule is told, and keeping it is not.
func TestFault(t *testing.T) {
	// Each case keeps memory of its own: one that another has scribbled over would look unchanged.
	kept, anew := []api.Term{{Col: 1, A: number(5)}}, []api.Term{{}}
	for _, c := range []struct {
		name string
		call func(v []api.Term) []api.Term
		want string
	}{
		{"new", func(v []api.Term) []api.Term { return guard.Terms(v) }, ""},
		{"nothing", func(v []api.Term) []api.Term { return nil }, ""},
		{"a column", func(v []api.Term) []api.Term { v[0].Col++; return nil }, "changed"},
		{"a place", func(v []api.Term) []api.Term { v[0].A, v[1].A = v[1].A, v[0].A; return nil }, "changed"},
		{"a limb", func(v []api.Term) []api.Term { v[1].A.Den[0]++; return nil }, "changed"},
		{"spare terms", func(v []api.Term) []api.Term { _ = append(v, api.Term{}); return nil }, "changed"},
		{"spare limbs", func(v []api.Term) []api.Term { _ = append(v[1].A.Num, 1); return nil }, "changed"},
		{"the list", func(v []api.Term) []api.Term { return v }, "handed in"},
		{"its end", func(v []api.Term) []api.Term { return v[2:] }, "handed in"},
		{"shared limbs", func(v []api.Term) []api.Term { return []api.Term{v[1]} }, "handed in"},
		{"shared room", func(v []api.Term) []api.Term { return []api.Term{{A: api.Rat{Num: v[1].A.Num[1:]}}} }, "handed in"},
		{"twice", func(v []api.Term) []api.Term { a := number(7); return []api.Term{{A: a}, {A: a}} }, "two lists"},
		{"twice in room", func(v []api.Term) []api.Term {
			a := []uint64{7, 1}
			return []api.Term{{A: api.Rat{Num: a[:1], Den: a[1:]}}}
		}, "two lists"},
		{"spare room twice", func(v []api.Term) []api.Term {
			a := []uint64{7, 0, 1}
			return []api.Term{{A: api.Rat{Num: a[:1], Den: a[2:2]}}}
		}, "two lists"},
		{"earlier", func(v []api.Term) []api.Term { return kept }, "earlier"},
		{"written anew", func(v []api.Term) []api.Term {
			anew[0] = api.Term{Col: 1, A: number(5)}
			return anew
		}, "earlier"},
	} {
		v := guard.Terms([]api.Term{{Col: 0, A: number(1)}, {Col: 2, A: number(3)}})
		fault := guard.Fault(func(b *guard.Book) { b.Terms(v) }, func(b *guard.Book) { b.Terms(c.call(v)) })
		if (fault == "") != (c.want == "") || !strings.Contains(fault, c.want) {
			t.Errorf("%s: %q", c.name, fault)
		}
	}
}

// TestMatrix: rows and their numbers are lists, too.
func TestMatrix(t *testing.T) {
	for _, c := range []struct {
		name string
		call func(a [][]api.Rat) [][]api.Rat
		want string
	}{
		{"new", func(a [][]api.Rat) [][]api.Rat { return guard.Matrix(a) }, ""},
		{"a row's place", func(a [][]api.Rat) [][]api.Rat { a[0], a[1] = a[1], a[0]; return nil }, "changed"},
		{"a number", func(a [][]api.Rat) [][]api.Rat { a[1][0] = number(1); return nil }, "changed"},
		{"a row's room", func(a [][]api.Rat) [][]api.Rat { _ = append(a[0], number(1)); return nil }, "changed"},
		{"a row handed", func(a [][]api.Rat) [][]api.Rat { return [][]api.Rat{a[1]} }, "handed in"},
		{"a row twice", func(a [][]api.Rat) [][]api.Rat { r := []api.Rat{{}}; return [][]api.Rat{r, r} }, "two lists"},
		{"a number twice", func(a [][]api.Rat) [][]api.Rat { r := number(1); return [][]api.Rat{{r}, {r}} }, "two lists"},
	} {
		a := guard.Matrix([][]api.Rat{{number(1)}, {number(2)}})
		fault := guard.Fault(func(b *guard.Book) { b.Matrix(a) }, func(b *guard.Book) { b.Matrix(c.call(a)) })
		if (fault == "") != (c.want == "") || !strings.Contains(fault, c.want) {
			t.Errorf("%s: %q", c.name, fault)
		}
	}
}

// TestModel: columns, rows and all that stands in them are lists, too.
func TestModel(t *testing.T) {
	small := func() api.Model {
		x := func() api.Ext { return api.Ext{V: number(1)} }
		col := func(name string) api.Col { return api.Col{Name: name, Cost: number(2), Lo: x(), Hi: x()} }
		row := func(name string) api.Row {
			return api.Row{Name: name, Lo: x(), Hi: x(), Terms: []api.Term{{Col: 1, A: number(3)}}}
		}
		return api.Model{Offset: number(5), Cols: []api.Col{col("x"), col("y")}, Rows: []api.Row{row("r"), row("s")}}
	}
	for _, c := range []struct {
		name string
		call func(m api.Model) api.Model
		want string
	}{
		{"new", func(m api.Model) api.Model { return guard.Model(m) }, ""},
		{"nothing", func(m api.Model) api.Model { return api.Model{} }, ""},
		{"the offset", func(m api.Model) api.Model { m.Offset.Num[0]++; return api.Model{} }, "changed"},
		{"a column's name", func(m api.Model) api.Model { m.Cols[1].Name = "z"; return api.Model{} }, "changed"},
		{"a column's cost", func(m api.Model) api.Model { m.Cols[0].Cost.Neg = true; return api.Model{} }, "changed"},
		{"a column's Lo", func(m api.Model) api.Model { m.Cols[0].Lo.Inf = -1; return api.Model{} }, "changed"},
		{"a column's Hi", func(m api.Model) api.Model { m.Cols[0].Hi.V.Num[0]++; return api.Model{} }, "changed"},
		{"a column's room", func(m api.Model) api.Model { _ = append(m.Cols, api.Col{Name: "z"}); return api.Model{} }, "changed"},
		{"a row's name", func(m api.Model) api.Model { m.Rows[1].Name = "z"; return api.Model{} }, "changed"},
		{"a row's Lo", func(m api.Model) api.Model { m.Rows[1].Lo.V.Den[0]++; return api.Model{} }, "changed"},
		{"a row's Hi", func(m api.Model) api.Model { m.Rows[0].Hi.Inf = 1; return api.Model{} }, "changed"},
		{"a row's terms", func(m api.Model) api.Model { m.Rows[0].Terms = nil; return api.Model{} }, "changed"},
		{"a term", func(m api.Model) api.Model { m.Rows[0].Terms[0].Col++; return api.Model{} }, "changed"},
		{"a row's room", func(m api.Model) api.Model { _ = append(m.Rows, api.Row{Name: "z"}); return api.Model{} }, "changed"},
		{"the offset handed", func(m api.Model) api.Model { return api.Model{Offset: m.Offset} }, "handed in"},
		{"a cost handed", func(m api.Model) api.Model { return api.Model{Cols: []api.Col{{Cost: m.Cols[1].Cost}}} }, "handed in"},
		{"a column's Lo handed", func(m api.Model) api.Model { return api.Model{Cols: []api.Col{{Lo: m.Cols[1].Lo}}} }, "handed in"},
		{"a column's Hi handed", func(m api.Model) api.Model { return api.Model{Cols: []api.Col{{Hi: m.Cols[1].Hi}}} }, "handed in"},
		{"a row's Lo handed", func(m api.Model) api.Model { return api.Model{Rows: []api.Row{{Lo: m.Rows[1].Lo}}} }, "handed in"},
		{"a row's Hi handed", func(m api.Model) api.Model { return api.Model{Rows: []api.Row{{Hi: m.Rows[1].Hi}}} }, "handed in"},
		{"terms handed", func(m api.Model) api.Model { return api.Model{Rows: []api.Row{{Terms: m.Rows[1].Terms}}} }, "handed in"},
		{"columns handed", func(m api.Model) api.Model { return api.Model{Cols: m.Cols} }, "handed in"},
		{"rows handed", func(m api.Model) api.Model { return api.Model{Rows: m.Rows[2:]} }, "handed in"},
		{"bounds twice", func(m api.Model) api.Model {
			x := api.Ext{V: number(1)}
			return api.Model{Cols: []api.Col{{Lo: x, Hi: x}}}
		}, "two lists"},
		{"terms twice", func(m api.Model) api.Model {
			v := []api.Term{{Col: 1, A: number(3)}}
			return api.Model{Rows: []api.Row{{Terms: v}, {Terms: v}}}
		}, "two lists"},
	} {
		m := guard.Model(small())
		fault := guard.Fault(func(b *guard.Book) { b.Model(m) }, func(b *guard.Book) { b.Model(c.call(m)) })
		if (fault == "") != (c.want == "") || !strings.Contains(fault, c.want) {
			t.Errorf("%s: %q", c.name, fault)
		}
	}
}

// TestPoint: each of a point's lists, and the numbers in it.
func TestPoint(t *testing.T) {
	for _, c := range []struct {
		name string
		call func(p api.Point) api.Point
		want string
	}{
		{"new", func(p api.Point) api.Point { return guard.Point(p) }, ""},
		{"a number of X", func(p api.Point) api.Point { p.X[1].Neg = true; return api.Point{} }, "changed"},
		{"a number of Y", func(p api.Point) api.Point { p.Y[0].Num[0]++; return api.Point{} }, "changed"},
		{"a number of Z", func(p api.Point) api.Point { p.Z[0].Den[0]++; return api.Point{} }, "changed"},
		{"the room of X", func(p api.Point) api.Point { _ = append(p.X, number(1)); return api.Point{} }, "changed"},
		{"the room of Y", func(p api.Point) api.Point { _ = append(p.Y, number(1)); return api.Point{} }, "changed"},
		{"the room of Z", func(p api.Point) api.Point { _ = append(p.Z, number(1)); return api.Point{} }, "changed"},
		{"X handed", func(p api.Point) api.Point { return api.Point{X: p.X} }, "handed in"},
		{"Y handed", func(p api.Point) api.Point { return api.Point{Y: p.Y[1:]} }, "handed in"},
		{"a number of Z handed", func(p api.Point) api.Point { return api.Point{Z: []api.Rat{p.Z[0]}} }, "handed in"},
		{"X and Z in one", func(p api.Point) api.Point { x := guard.Rats(p.X); return api.Point{X: x, Z: x} }, "two lists"},
		{"a number in X and Y", func(p api.Point) api.Point {
			n := number(1)
			return api.Point{X: []api.Rat{n}, Y: []api.Rat{n}}
		}, "two lists"},
	} {
		p := guard.Point(api.Point{X: []api.Rat{number(1), number(2)}, Y: []api.Rat{number(3)}, Z: []api.Rat{number(4), number(5)}})
		fault := guard.Fault(func(b *guard.Book) { b.Point(p) }, func(b *guard.Book) { b.Point(c.call(p)) })
		if (fault == "") != (c.want == "") || !strings.Contains(fault, c.want) {
			t.Errorf("%s: %q", c.name, fault)
		}
	}
}

// TestCert: each of a certificate's lists, and the numbers in it.
func TestCert(t *testing.T) {
	for _, c := range []struct {
		name string
		call func(c api.Cert) api.Cert
		want string
	}{
		{"new", func(c api.Cert) api.Cert { return guard.Cert(c) }, ""},
		{"a number of RowLo", func(c api.Cert) api.Cert { c.RowLo[1].Neg = true; return api.Cert{} }, "changed"},
		{"a number of RowHi", func(c api.Cert) api.Cert { c.RowHi[0].Num[0]++; return api.Cert{} }, "changed"},
		{"a number of ColLo", func(c api.Cert) api.Cert { c.ColLo[0].Den[0]++; return api.Cert{} }, "changed"},
		{"a number of ColHi", func(c api.Cert) api.Cert { c.ColHi[1].Num[0]++; return api.Cert{} }, "changed"},
		{"the room of RowLo", func(c api.Cert) api.Cert { _ = append(c.RowLo, number(1)); return api.Cert{} }, "changed"},
		{"the room of RowHi", func(c api.Cert) api.Cert { _ = append(c.RowHi, number(1)); return api.Cert{} }, "changed"},
		{"the room of ColLo", func(c api.Cert) api.Cert { _ = append(c.ColLo, number(1)); return api.Cert{} }, "changed"},
		{"the room of ColHi", func(c api.Cert) api.Cert { _ = append(c.ColHi, number(1)); return api.Cert{} }, "changed"},
		{"RowLo handed", func(c api.Cert) api.Cert { return api.Cert{RowHi: c.RowLo} }, "handed in"},
		{"RowHi handed", func(c api.Cert) api.Cert { return api.Cert{RowHi: c.RowHi[1:]} }, "handed in"},
		{"a number of ColLo handed", func(c api.Cert) api.Cert { return api.Cert{RowLo: []api.Rat{c.ColLo[0]}} }, "handed in"},
		{"a number of ColHi handed", func(c api.Cert) api.Cert { return api.Cert{ColLo: []api.Rat{c.ColHi[0]}} }, "handed in"},
		{"two in one", func(c api.Cert) api.Cert { x := guard.Rats(c.ColLo); return api.Cert{RowLo: x, ColHi: x} }, "two lists"},
		{"a number twice", func(c api.Cert) api.Cert {
			n := number(1)
			return api.Cert{RowHi: []api.Rat{n}, ColHi: []api.Rat{n}}
		}, "two lists"},
	} {
		pair := func() []api.Rat { return []api.Rat{number(1), number(2)} }
		given := guard.Cert(api.Cert{RowLo: pair(), RowHi: pair(), ColLo: pair(), ColHi: pair()})
		fault := guard.Fault(func(b *guard.Book) { b.Cert(given) }, func(b *guard.Book) { b.Cert(c.call(given)) })
		if (fault == "") != (c.want == "") || !strings.Contains(fault, c.want) {
			t.Errorf("%s: %q", c.name, fault)
		}
	}
}

// TestRay: the point and the direction, and the numbers in them.
func TestRay(t *testing.T) {
	for _, c := range []struct {
		name string
		call func(r api.Ray) api.Ray
		want string
	}{
		{"new", func(r api.Ray) api.Ray { return guard.Ray(r) }, ""},
		{"a number of X", func(r api.Ray) api.Ray { r.X[1].Num[0]++; return api.Ray{} }, "changed"},
		{"a number of D", func(r api.Ray) api.Ray { r.D[0].Neg = true; return api.Ray{} }, "changed"},
		{"the room of X", func(r api.Ray) api.Ray { _ = append(r.X, number(1)); return api.Ray{} }, "changed"},
		{"the room of D", func(r api.Ray) api.Ray { _ = append(r.D, number(1)); return api.Ray{} }, "changed"},
		{"X handed", func(r api.Ray) api.Ray { return api.Ray{D: r.X} }, "handed in"},
		{"a number of D handed", func(r api.Ray) api.Ray { return api.Ray{X: []api.Rat{r.D[1]}} }, "handed in"},
		{"two in one", func(r api.Ray) api.Ray { x := guard.Rats(r.X); return api.Ray{X: x, D: x} }, "two lists"},
	} {
		given := guard.Ray(api.Ray{X: []api.Rat{number(1), number(2)}, D: []api.Rat{number(3), number(4)}})
		fault := guard.Fault(func(b *guard.Book) { b.Ray(given) }, func(b *guard.Book) { b.Ray(c.call(given)) })
		if (fault == "") != (c.want == "") || !strings.Contains(fault, c.want) {
			t.Errorf("%s: %q", c.name, fault)
		}
	}
}

// TestBasis: the statuses of columns, and those of rows.
func TestBasis(t *testing.T) {
	type status = api.Status
	for _, c := range []struct {
		name string
		call func(s api.Basis) api.Basis
		want string
	}{
		{"new", func(s api.Basis) api.Basis { return guard.Basis(s) }, ""},
		{"a column's status", func(s api.Basis) api.Basis { s.Cols[1] = api.Free; return api.Basis{} }, "changed"},
		{"a row's status", func(s api.Basis) api.Basis { s.Rows[0] = api.Basic; return api.Basis{} }, "changed"},
		{"the room of Cols", func(s api.Basis) api.Basis { _ = append(s.Cols, 0); return api.Basis{} }, "changed"},
		{"the room of Rows", func(s api.Basis) api.Basis { _ = append(s.Rows, 0); return api.Basis{} }, "changed"},
		{"Cols handed", func(s api.Basis) api.Basis { return api.Basis{Rows: s.Cols} }, "handed in"},
		{"Rows handed", func(s api.Basis) api.Basis { return api.Basis{Rows: s.Rows[1:]} }, "handed in"},
		{"two in one", func(s api.Basis) api.Basis { l := []status{1, 2}; return api.Basis{Cols: l, Rows: l} }, "two lists"},
		{"one in the other's room", func(s api.Basis) api.Basis { l := []status{1, 2}; return api.Basis{Cols: l[:1], Rows: l[1:]} }, "two lists"},
	} {
		given := guard.Basis(api.Basis{Cols: []status{1, 2}, Rows: []status{3}})
		fault := guard.Fault(func(b *guard.Book) { b.Basis(given) }, func(b *guard.Book) { b.Basis(c.call(given)) })
		if (fault == "") != (c.want == "") || !strings.Contains(fault, c.want) {
			t.Errorf("%s: %q", c.name, fault)
		}
	}
}

// TestAnswer: the value, the point, the basis, the certificate and the ray.
func TestAnswer(t *testing.T) {
	for _, c := range []struct {
		name string
		call func(a api.Answer) api.Answer
		want string
	}{
		{"new", func(a api.Answer) api.Answer { return guard.Answer(a) }, ""},
		{"the value", func(a api.Answer) api.Answer { a.Value.Num[0]++; return api.Answer{} }, "changed"},
		{"the value's room", func(a api.Answer) api.Answer { _ = append(a.Value.Den, 1); return api.Answer{} }, "changed"},
		{"a number of the point", func(a api.Answer) api.Answer { a.Point.Y[0].Num[0]++; return api.Answer{} }, "changed"},
		{"a status", func(a api.Answer) api.Answer { a.Basis.Cols[0]++; return api.Answer{} }, "changed"},
		{"a multiplier", func(a api.Answer) api.Answer { a.Cert.ColHi[0].Den[0]++; return api.Answer{} }, "changed"},
		{"a number of the ray", func(a api.Answer) api.Answer { a.Ray.D[0].Num[0]++; return api.Answer{} }, "changed"},
		{"the value handed", func(a api.Answer) api.Answer { return api.Answer{Value: a.Value} }, "handed in"},
		{"the basis handed", func(a api.Answer) api.Answer { return api.Answer{Basis: a.Basis} }, "handed in"},
		{"the ray handed", func(a api.Answer) api.Answer { return api.Answer{Ray: api.Ray{X: a.Ray.X}} }, "handed in"},
		{"the value in the point", func(a api.Answer) api.Answer {
			r := number(1)
			return api.Answer{Value: r, Point: api.Point{X: []api.Rat{r}}}
		}, "two lists"},
		{"the point in the ray", func(a api.Answer) api.Answer {
			x := []api.Rat{number(1)}
			return api.Answer{Point: api.Point{X: x}, Ray: api.Ray{X: x}}
		}, "two lists"},
	} {
		one := []api.Rat{number(3)}
		given := guard.Answer(api.Answer{Value: number(2), Point: api.Point{X: one, Y: one, Z: one}, Basis: api.Basis{Cols: []api.Status{1}, Rows: []api.Status{2}}, Cert: api.Cert{RowLo: one, RowHi: one, ColLo: one, ColHi: one}, Ray: api.Ray{X: one, D: one}})
		fault := guard.Fault(func(b *guard.Book) { b.Answer(given) }, func(b *guard.Book) { b.Answer(c.call(given)) })
		if (fault == "") != (c.want == "") || !strings.Contains(fault, c.want) {
			t.Errorf("%s: %q", c.name, fault)
		}
	}
}

// TestList: a list of another kind.
func TestList(t *testing.T) {
	nothing := func(b *guard.Book) {}
	kept := [][2]int{{1, 2}}
	tell := func(b *guard.Book, l [][2]int) {
		guard.List(b, l, func(p [2]int) string { return string(rune('a' + p[0]%7)) }, [2]int{5, 5})
	}
	if fault := guard.Fault(nothing, func(b *guard.Book) { tell(b, [][2]int{{1, 2}}) }); fault != "" {
		t.Errorf("a new list: %q", fault)
	}
	if fault := guard.Fault(nothing, func(b *guard.Book) { tell(b, kept) }); !strings.Contains(fault, "earlier") {
		t.Errorf("a list kept: %q", fault)
	}
}

// TestPlaces: lists of places, and of lists of terms, are told as the others are.
func TestPlaces(t *testing.T) {
	nothing := func(b *guard.Book) {}
	kept := []int{1, 2}
	if fault := guard.Fault(nothing, func(b *guard.Book) { b.Ints([]int{1, 2}) }); fault != "" {
		t.Errorf("new places: %q", fault)
	}
	if fault := guard.Fault(nothing, func(b *guard.Book) { b.Ints(kept) }); !strings.Contains(fault, "earlier") {
		t.Errorf("places kept: %q", fault)
	}
	for _, c := range []struct {
		name string
		call func(v []api.Term) [][]api.Term
		want string
	}{
		{"new columns", func(v []api.Term) [][]api.Term { return [][]api.Term{guard.Terms(v), nil} }, ""},
		{"a number handed on", func(v []api.Term) [][]api.Term { return [][]api.Term{{{A: v[0].A}}} }, "handed in"},
		{"a list handed on", func(v []api.Term) [][]api.Term { return [][]api.Term{nil, v} }, "handed in"},
		{"a list twice", func(v []api.Term) [][]api.Term { w := guard.Terms(v); return [][]api.Term{w, w} }, "two lists"},
	} {
		v := guard.Terms([]api.Term{{Col: 1, A: number(3)}})
		fault := guard.Fault(func(b *guard.Book) { b.Terms(v) }, func(b *guard.Book) { b.Columns(c.call(v)) })
		if (fault == "") != (c.want == "") || !strings.Contains(fault, c.want) {
			t.Errorf("%s: %q", c.name, fault)
		}
	}
}
