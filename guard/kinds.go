package guard

import (
	"strconv"

	"tableau/api"
)

const (
	mark   = 0x2BCDEF0123456789
	scrawl = 0x5C2A375C2A375C2A
)

// Limbs answers a copy with marks in spare room behind it.
func Limbs(a []uint64) []uint64 { return padded(a, mark) }

// Rat answers a copy with marks in spare room behind each list, as do those below.
func Rat(r api.Rat) api.Rat {
	return api.Rat{Neg: r.Neg, Num: Limbs(r.Num), Den: Limbs(r.Den)}
}

// Rats: see Rat.
func Rats(x []api.Rat) []api.Rat {
	out := padded(x, Rat(api.Rat{}))
	for i, r := range x {
		out[i] = Rat(r)
	}
	return out
}

// Matrix: see Rat.
func Matrix(a [][]api.Rat) [][]api.Rat {
	out := padded(a, Rats(nil))
	for i, row := range a {
		out[i] = Rats(row)
	}
	return out
}

// Terms: see Rat.
func Terms(v []api.Term) []api.Term {
	out := padded(v, api.Term{Col: mark})
	for i, t := range v {
		out[i] = api.Term{Col: t.Col, A: Rat(t.A)}
	}
	return out
}

// Ext: see Rat.
func Ext(x api.Ext) api.Ext { return api.Ext{Inf: x.Inf, V: Rat(x.V)} }

// Col: see Rat.
func Col(c api.Col) api.Col {
	return api.Col{Name: c.Name, Cost: Rat(c.Cost), Lo: Ext(c.Lo), Hi: Ext(c.Hi)}
}

// Row: see Rat.
func Row(r api.Row) api.Row {
	return api.Row{Name: r.Name, Lo: Ext(r.Lo), Hi: Ext(r.Hi), Terms: Terms(r.Terms)}
}

// Model: see Rat.
func Model(m api.Model) api.Model {
	out := api.Model{Offset: Rat(m.Offset), Cols: padded(m.Cols, Col(api.Col{})), Rows: padded(m.Rows, Row(api.Row{}))}
	for i, c := range m.Cols {
		out.Cols[i] = Col(c)
	}
	for i, r := range m.Rows {
		out.Rows[i] = Row(r)
	}
	return out
}

// Point: see Rat.
func Point(p api.Point) api.Point { return api.Point{X: Rats(p.X), Y: Rats(p.Y), Z: Rats(p.Z)} }

// Cert: see Rat.
func Cert(c api.Cert) api.Cert {
	return api.Cert{RowLo: Rats(c.RowLo), RowHi: Rats(c.RowHi), ColLo: Rats(c.ColLo), ColHi: Rats(c.ColHi)}
}

// Ray: see Rat.
func Ray(r api.Ray) api.Ray { return api.Ray{X: Rats(r.X), D: Rats(r.D)} }

// Basis: see Rat.
func Basis(s api.Basis) api.Basis {
	return api.Basis{Cols: padded(s.Cols, api.Status(mark)), Rows: padded(s.Rows, api.Status(mark))}
}

// Answer: see Rat.
func Answer(a api.Answer) api.Answer {
	return api.Answer{Status: a.Status, Value: Rat(a.Value), Point: Point(a.Point), Basis: Basis(a.Basis), Cert: Cert(a.Cert), Ray: Ray(a.Ray)}
}

// List tells one list of a kind that this package doesn't know, whose elements have no lists of their own.
func List[T any](b *Book, a []T, text func(T) string, scrawl T) { note(b, a, text, scrawl) }

// Limbs tells one list.
func (b *Book) Limbs(a []uint64) {
	note(b, a, func(w uint64) string { return strconv.FormatUint(w, 10) }, scrawl)
}

// Rat tells the lists of a number.
func (b *Book) Rat(r api.Rat) {
	b.Limbs(r.Num)
	b.Limbs(r.Den)
}

// Rats tells the list, and those of its numbers.
func (b *Book) Rats(x []api.Rat) {
	for _, r := range note(b, x, ratText, api.Rat{Neg: true}) {
		b.Rat(r)
	}
}

// Matrix tells the list, and those of its rows.
func (b *Book) Matrix(a [][]api.Rat) {
	for _, row := range note(b, a, func(row []api.Rat) string { return strconv.Itoa(len(row)) }, make([]api.Rat, 1000)) {
		b.Rats(row)
	}
}

// Terms tells the list, and those of its terms.
func (b *Book) Terms(v []api.Term) {
	text := func(t api.Term) string { return strconv.Itoa(t.Col) + ":" + ratText(t.A) }
	for _, t := range note(b, v, text, api.Term{Col: scrawl}) {
		b.Rat(t.A)
	}
}

// Columns tells the list, and those of its lists of terms.
func (b *Book) Columns(l [][]api.Term) {
	for _, v := range note(b, l, func(v []api.Term) string { return strconv.Itoa(len(v)) }, make([]api.Term, 1000)) {
		b.Terms(v)
	}
}

// Ints tells one list.
func (b *Book) Ints(a []int) { note(b, a, strconv.Itoa, scrawl) }

// Ext tells the lists of a bound.
func (b *Book) Ext(x api.Ext) { b.Rat(x.V) }

// Col tells the lists of a column.
func (b *Book) Col(c api.Col) {
	b.Rat(c.Cost)
	b.Ext(c.Lo)
	b.Ext(c.Hi)
}

// Row tells the lists of a row.
func (b *Book) Row(r api.Row) {
	b.Ext(r.Lo)
	b.Ext(r.Hi)
	b.Terms(r.Terms)
}

// Model tells the lists of a model, and those of its columns and rows.
func (b *Book) Model(m api.Model) {
	b.Rat(m.Offset)
	for _, c := range note(b, m.Cols, colText, api.Col{Name: "scrawl"}) {
		b.Col(c)
	}
	for _, r := range note(b, m.Rows, rowText, api.Row{Name: "scrawl"}) {
		b.Row(r)
	}
}

// Point tells the lists of a point, and those of their numbers.
func (b *Book) Point(p api.Point) {
	b.Rats(p.X)
	b.Rats(p.Y)
	b.Rats(p.Z)
}

// Cert tells the lists of multipliers, and those of their numbers.
func (b *Book) Cert(c api.Cert) {
	b.Rats(c.RowLo)
	b.Rats(c.RowHi)
	b.Rats(c.ColLo)
	b.Rats(c.ColHi)
}

// Ray tells the lists of a ray, and those of their numbers.
func (b *Book) Ray(r api.Ray) {
	b.Rats(r.X)
	b.Rats(r.D)
}

// Basis tells both lists of statuses.
func (b *Book) Basis(s api.Basis) {
	text := func(s api.Status) string { return strconv.Itoa(int(s)) }
	note(b, s.Cols, text, api.Status(scrawl))
	note(b, s.Rows, text, api.Status(scrawl))
}

// Answer tells the lists of all that an answer may be shown by.
func (b *Book) Answer(a api.Answer) {
	b.Rat(a.Value)
	b.Point(a.Point)
	b.Basis(a.Basis)
	b.Cert(a.Cert)
	b.Ray(a.Ray)
}

func colText(c api.Col) string {
	return c.Name + ":" + ratText(c.Cost) + ":" + extText(c.Lo) + ":" + extText(c.Hi)
}

func rowText(r api.Row) string {
	return r.Name + ":" + extText(r.Lo) + ":" + extText(r.Hi) + ":" + strconv.Itoa(len(r.Terms))
}

func extText(x api.Ext) string { return strconv.Itoa(x.Inf) + "," + ratText(x.V) }

func ratText(r api.Rat) string {
	return strconv.FormatBool(r.Neg) + "," + strconv.Itoa(len(r.Num)) + "," + strconv.Itoa(len(r.Den))
}
