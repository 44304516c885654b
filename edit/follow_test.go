package edit_test

import (
	"math/big"
	"slices"
	"testing"

	"tableau/api"
	"tableau/edit"
	"tableau/sample"
)

// A tally counts points, and numbers that are none: a test must see both.
type tally struct{ points, others int }

// held: are x in m and y in n both points, or both none, and of one value?
func (s *tally) held(m api.Model, x []*big.Rat, n api.Model, y []*big.Rat) bool {
	p, q := toPlain(m), toPlain(n)
	if isPoint(p, x) {
		s.points++
	} else {
		s.others++
	}
	return isPoint(p, x) == isPoint(q, y) && value(p, x).Cmp(value(q, y)) == 0
}

func (s *tally) check(t *testing.T, name string) {
	t.Helper()
	if s.points < 20 || s.others < 20 {
		t.Errorf("%s: %d points and %d others are tried", name, s.points, s.others)
	}
}

// candidates: numbers for m's columns: those that keep all columns' bounds as far as there are any, and others; on bounds, beside them, between them.
func candidates(m api.Model) [][]*big.Rat {
	var out [][]*big.Rat
	for k := range 12 {
		var x []*big.Rat
		for col, c := range toPlain(m).cols {
			step := big.NewRat(int64((k*(col+3)+col)%7), 3)
			switch {
			case c.lo != nil && (k%3 != 2 || c.hi == nil):
				x = append(x, plus(c.lo, times(step, big.NewRat(int64(k%2), 1))))
			case c.hi != nil:
				x = append(x, plus(c.hi, minus(times(step, big.NewRat(int64(k%2), 1)))))
			default:
				x = append(x, plus(step, big.NewRat(-1, 1)))
			}
		}
		if k == 11 && len(x) > 0 {
			x[0] = plus(x[0], big.NewRat(-100, 1))
		}
		out = append(out, x)
	}
	return out
}

// followed: models that have points, and others.
func followed() []api.Model {
	out := sample.Models()
	for seed := range 150 {
		out = append(out, sample.Drawn(100+seed))
	}
	return out
}

func TestScaleRowFollows(t *testing.T) {
	var s tally
	for _, m := range followed() {
		for _, row := range places(len(m.Rows)) {
			for i, x := range candidates(m) {
				r := sample.Rats()[1+i%7]
				n, e := edit.ScaleRow(m, row, r)
				if e != api.OK || !s.held(m, x, n, x) {
					t.Errorf("P8.6: ScaleRow of %v, %d by %v = %v, %d, at %v", m, row, r, n, e, x)
				}
			}
		}
	}
	s.check(t, "ScaleRow")
}

func TestMirrorFollows(t *testing.T) {
	var s tally
	for _, m := range followed() {
		for _, col := range places(len(m.Cols)) {
			n, e := edit.Mirror(m, col)
			for _, x := range candidates(m) {
				y := slices.Clone(x)
				y[col] = minus(x[col])
				if e != api.OK || !s.held(m, x, n, y) {
					t.Errorf("P8.6: Mirror of %v, %d = %v, %d, at %v", m, col, n, e, x)
				}
			}
		}
	}
	s.check(t, "Mirror")
}

// TestDropRowFollows: a row whose bounds are infinite, put in between the others.
func TestDropRowFollows(t *testing.T) {
	var s tally
	for _, m := range followed() {
		for _, row := range places(len(m.Rows)) {
			free, e := edit.SetRow(m, row, sample.Low(), sample.High())
			n, f := edit.DropRow(free, row)
			for _, x := range candidates(m) {
				if e != api.OK || f != api.OK || !s.held(free, x, n, x) {
					t.Errorf("P8.6: DropRow of %v, %d = %v, %d, at %v", free, row, n, e, x)
				}
			}
		}
	}
	s.check(t, "DropRow")
}

// TestSubstituteFollows: what is left at the other numbers, once the column has its number.
func TestSubstituteFollows(t *testing.T) {
	var s tally
	for _, m := range followed() {
		for _, col := range places(len(m.Cols)) {
			for _, x := range candidates(m) {
				// The column's bounds are not asked for: so they must not decide here.
				free, e := edit.SetCol(m, col, sample.Low(), sample.High())
				n, f := edit.Substitute(m, col, fromBig(x[col]))
				if e != api.OK || f != api.OK || !s.held(free, x, n, slices.Delete(slices.Clone(x), col, col+1)) {
					t.Errorf("P8.5: Substitute of %v, %d = %v, %d, at %v", m, col, n, f, x)
				}
			}
		}
	}
	s.check(t, "Substitute")
}
