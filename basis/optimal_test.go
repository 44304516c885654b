package basis_test

import (
	"math/big"
	"slices"
	"testing"

	"tableau/api"
	"tableau/basis"
	"tableau/dual"
	"tableau/sample"
)

// lists: those of a point, to be changed in place.
func lists(p *api.Point) []*[]api.Rat { return []*[]api.Rat{&p.X, &p.Y, &p.Z} }

// points: the same point with lists of its own.
func points(p api.Point) api.Point {
	return api.Point{X: slices.Clone(p.X), Y: slices.Clone(p.Y), Z: slices.Clone(p.Z)}
}

// some: is the place one of the first few, or the last?
func some(place, n int) bool { return place < 5 || place == n-1 }

// steps: what a number is moved by.
func steps() []*big.Rat {
	return []*big.Rat{big.NewRat(1, 1<<40), big.NewRat(-1, 1<<40), big.NewRat(7, 3), big.NewRat(-7, 3)}
}

func moved(r api.Rat, more *big.Rat) api.Rat { return fromBig(new(big.Rat).Add(toBig(r), more)) }

// TestNumbers: an optimal basis and its point, with one number of it otherwise.
func TestNumbers(t *testing.T) {
	for _, k := range sample.Bases() {
		for i, list := range lists(&k.P) {
			for place, r := range *list {
				if !some(place, len(*list)) {
					continue
				}
				for _, more := range steps() {
					p := points(k.P)
					(*lists(&p)[i])[place] = moved(r, more)
					checkOptimal(t, "one number otherwise", k.M, k.B, p, false)
				}
			}
		}
	}
}

// TestStatuses: the same with one status otherwise: still a basis of that point, of another one, or none.
func TestStatuses(t *testing.T) {
	still, no := 0, 0
	for _, k := range sample.Bases() {
		for i, list := range [][]api.Status{k.B.Cols, k.B.Rows} {
			for place := range list {
				if len(list) > 6 && place != 0 && place != len(list)-1 {
					continue
				}
				for s := api.Status(-1); s <= 4; s++ {
					b := cloned(k.B)
					[][]api.Status{b.Cols, b.Rows}[i][place] = s
					want := sameBasis(b, k.B) || optimalOf(k.M, b, k.P)
					checkOptimal(t, "one status otherwise", k.M, b, k.P, want)
					if want && !sameBasis(b, k.B) {
						still++
					} else {
						no++
					}
				}
			}
		}
	}
	if still < 5 || no < 500 {
		t.Errorf("%d are still optimal and %d aren't: too few are tried", still, no)
	}
}

// TestOtherPoints: KKT points that are not the basis's own: of bases with the same X or the same Y, and of none.
func TestOtherPoints(t *testing.T) {
	at, low, high := sample.At, sample.Low, sample.High
	// Of 0 <= x the column's bound may be leant on, or the row's, or both.
	m := api.Model{Offset: sample.Frac(0, 1), Cols: []api.Col{sample.Col("x", 2, at(0), high())}, Rows: []api.Row{sample.Row("r", at(0), high(), sample.Term(0, 1))}}
	byCol, byRow := of(1, api.Lower, api.Basic), of(1, api.Basic, api.Lower)
	p, q, both := api.Point{X: nums(0), Y: nums(0), Z: nums(2)}, api.Point{X: nums(0), Y: nums(2), Z: nums(0)}, api.Point{X: nums(0), Y: nums(1), Z: nums(1)}
	for _, c := range []struct {
		b    api.Basis
		p    api.Point
		want bool
	}{{byCol, p, true}, {byRow, q, true}, {byCol, q, false}, {byRow, p, false}, {byCol, both, false}, {byRow, both, false}} {
		if is, e := dual.Holds(m, c.p); !is || e != api.OK {
			t.Fatalf("%v is no KKT point: %d", c.p, e)
		}
		checkOptimal(t, "other multipliers", m, c.b, c.p, c.want)
	}
	// Without costs each point is a KKT point.
	m = api.Model{Offset: sample.Frac(0, 1), Cols: []api.Col{sample.Col("x", 0, at(1), at(3)), sample.Col("y", 0, low(), high())}, Rows: []api.Row{sample.Row("r", low(), at(9), sample.Term(0, 2), sample.Term(1, 1))}}
	for x := 1; x <= 3; x++ {
		for y := -1; y <= 3; y++ {
			p := api.Point{X: nums(x, y), Y: nums(0), Z: nums(0, 0)}
			if is, e := dual.Holds(m, p); !is || e != api.OK {
				t.Fatalf("%v is no KKT point: %d", p, e)
			}
			checkOptimal(t, "without costs", m, of(2, api.Lower, api.Free, api.Basic), p, x == 1 && y == 0)
			checkOptimal(t, "without costs", m, of(2, api.Upper, api.Free, api.Basic), p, x == 3 && y == 0)
			checkOptimal(t, "without costs", m, of(2, api.Upper, api.Basic, api.Upper), p, x == 3 && y == 3)
		}
	}
}

// TestKept: bases whose points keep all bounds but are not the least, and bases whose points don't keep them.
func TestKept(t *testing.T) {
	m := example()
	for _, c := range []struct {
		b       api.Basis
		p       api.Point
		optimal bool
	}{
		{of(2, api.Upper, api.Upper, api.Basic), api.Point{X: nums(4, 4), Y: nums(0), Z: nums(-1, -1)}, false},
		{of(2, api.Lower, api.Upper, api.Basic), api.Point{X: nums(0, 4), Y: nums(0), Z: nums(-1, -1)}, false},
		{of(2, api.Upper, api.Lower, api.Basic), api.Point{X: nums(4, 0), Y: nums(0), Z: nums(-1, -1)}, false},
		{of(2, api.Basic, api.Lower, api.Upper), api.Point{X: nums(6, 0), Y: nums(-1), Z: nums(0, 1)}, false},
		{of(2, api.Basic, api.Upper, api.Upper), api.Point{X: nums(-2, 4), Y: nums(-1), Z: nums(0, 1)}, false},
		{of(2, api.Lower, api.Basic, api.Upper), api.Point{X: nums(0, 3), Y: []api.Rat{sample.Frac(-1, 2)}, Z: []api.Rat{sample.Frac(-1, 2), sample.Frac(0, 1)}}, false},
		{of(2, api.Upper, api.Basic, api.Upper), api.Point{X: nums(4, 1), Y: []api.Rat{sample.Frac(-1, 2)}, Z: []api.Rat{sample.Frac(-1, 2), sample.Frac(0, 1)}}, true},
	} {
		checkValid(t, "the example's", m, c.b, true)
		checkPoint(t, "the example's", m, c.b, c.p)
		checkOptimal(t, "the example's", m, c.b, c.p, c.optimal)
	}
	// Crossed bounds have bases, but no point of them keeps bounds.
	crossed := api.Model{Offset: sample.Frac(0, 1), Cols: []api.Col{sample.Col("x", 0, sample.At(2), sample.At(1))}, Rows: []api.Row{sample.Row("r", sample.At(5), sample.At(3), sample.Term(0, 1))}}
	for _, c := range []struct {
		b api.Basis
		x int
	}{{of(1, api.Lower, api.Basic), 2}, {of(1, api.Upper, api.Basic), 1}, {of(1, api.Basic, api.Lower), 5}, {of(1, api.Basic, api.Upper), 3}} {
		p := api.Point{X: nums(c.x), Y: nums(0), Z: nums(0)}
		checkValid(t, "crossed bounds", crossed, c.b, true)
		checkPoint(t, "crossed bounds", crossed, c.b, p)
		checkOptimal(t, "crossed bounds", crossed, c.b, p, false)
	}
}

// TestPointLists: each list of the point one too short, one too long, nil, or another one's.
func TestPointLists(t *testing.T) {
	for _, k := range sample.Bases() {
		for i, list := range lists(&k.P) {
			change := func(turn func(list []api.Rat) []api.Rat) api.Point {
				p := points(k.P)
				*lists(&p)[i] = turn(*lists(&p)[i])
				return p
			}
			for _, r := range nums(0, 1) {
				checkOptimal(t, "one too many", k.M, k.B, change(func(list []api.Rat) []api.Rat { return append(list, r) }), false)
			}
			if len(*list) > 0 {
				checkOptimal(t, "one too few", k.M, k.B, change(func(list []api.Rat) []api.Rat { return list[:len(list)-1] }), false)
				checkOptimal(t, "the first one too few", k.M, k.B, change(func(list []api.Rat) []api.Rat { return list[1:] }), false)
				checkOptimal(t, "nil", k.M, k.B, change(func([]api.Rat) []api.Rat { return nil }), false)
			} else {
				checkOptimal(t, "nil or empty", k.M, k.B, change(func([]api.Rat) []api.Rat { return []api.Rat{} }), true)
				checkOptimal(t, "nil or empty", k.M, k.B, change(func([]api.Rat) []api.Rat { return nil }), true)
			}
		}
		if len(k.P.X)+len(k.P.Y) > 0 {
			checkOptimal(t, "nothing", k.M, k.B, api.Point{}, false)
		}
	}
}

// TestPointForms: a number of the point that is not in form, some of which stand for the very number that is asked for: false, without an error.
func TestPointForms(t *testing.T) {
	for _, k := range sample.Bases() {
		for i, list := range lists(&k.P) {
			for place, r := range *list {
				if place > 2 && place < len(*list)-1 {
					continue
				}
				for _, bad := range append(sample.BadRats(), unform(r)...) {
					p := points(k.P)
					(*lists(&p)[i])[place] = bad
					checkOptimal(t, "not in form", k.M, k.B, p, false)
				}
			}
		}
	}
}

// unform: the same number, in ways that are not in form.
func unform(r api.Rat) []api.Rat {
	three := func(a []uint64) []uint64 { return limbs(new(big.Int).Mul(toInt(a), big.NewInt(3))) }
	return []api.Rat{
		{Neg: r.Neg, Num: append(slices.Clone(r.Num), 0), Den: r.Den},
		{Neg: r.Neg, Num: r.Num, Den: append(slices.Clone(r.Den), 0)},
		{Neg: r.Neg, Num: three(r.Num), Den: three(r.Den)},
	}
}

// slackOf: by the words of the promise.
func slackOf(m api.Model) api.Basis {
	var b api.Basis
	for _, c := range m.Cols {
		switch {
		case c.Lo.Inf == 0:
			b.Cols = append(b.Cols, api.Lower)
		case c.Hi.Inf == 0:
			b.Cols = append(b.Cols, api.Upper)
		default:
			b.Cols = append(b.Cols, api.Free)
		}
	}
	b.Rows = statuses(len(m.Rows), api.Basic)
	return b
}

func checkSlack(t *testing.T, m api.Model, want api.Basis) {
	t.Helper()
	b, e := basis.Slack(m)
	if e != api.OK || !sameBasis(b, want) {
		t.Errorf("P14.3: Slack of %v = %v, %d, want %v", m, b, e, want)
	}
	checkValid(t, "the slack basis", m, b, true)
}

// TestSlack: columns bounded below, above, on both sides and not at all, and crossed ones; models of all kinds.
func TestSlack(t *testing.T) {
	want := []api.Status{api.Lower, api.Lower, api.Upper, api.Free, api.Lower, api.Lower, api.Lower}
	m := api.Model{Offset: sample.Frac(0, 1)}
	for i, k := range kinds() {
		name := string(rune('a' + i))
		alone := api.Model{Offset: sample.Frac(0, 1), Cols: []api.Col{sample.Col(name, 1, k[0], k[1])}}
		checkSlack(t, alone, api.Basis{Cols: want[i : i+1]})
		alone.Rows = []api.Row{sample.Row("r", k[0], k[1], sample.Term(0, 1)), sample.Row("s", k[0], k[1])}
		checkSlack(t, alone, api.Basis{Cols: want[i : i+1], Rows: statuses(2, api.Basic)})
		m.Cols = append(m.Cols, alone.Cols...)
		m.Rows = append(m.Rows, sample.Row(name, k[0], k[1], sample.Term(i, 3)))
	}
	checkSlack(t, m, api.Basis{Cols: want, Rows: statuses(len(m.Rows), api.Basic)})
	checkSlack(t, sample.Full(), api.Basis{Cols: statuses(64, api.Lower), Rows: statuses(64, api.Basic)})
	checkSlack(t, api.Model{Offset: sample.Frac(0, 1)}, api.Basis{})
	for _, m := range sample.Models() {
		checkSlack(t, m, slackOf(m))
	}
	for _, k := range sample.Bases() {
		checkSlack(t, k.M, slackOf(k.M))
	}
}
