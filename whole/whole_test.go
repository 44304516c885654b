package whole_test

import (
	"encoding/binary"
	"math"
	"math/big"
	"slices"
	"strings"
	"testing"

	"tableau/api"
	"tableau/whole"
)

const top = 1<<64 - 1

// toBig: the number by the library's own reckoning, against which whole is held.
func toBig(a api.Whole) *big.Int {
	var bytes []byte
	for _, w := range slices.Backward(a.Mag) {
		bytes = binary.BigEndian.AppendUint64(bytes, w)
	}
	n := new(big.Int).SetBytes(bytes)
	if a.Neg {
		n.Neg(n)
	}
	return n
}

// same: is it the number n, in form, without an error?
func same(a api.Whole, e api.Errno, n *big.Int) bool {
	return e == api.OK && whole.Form(a) && toBig(a).Cmp(n) == 0
}

// none: is it the zero value?
func none(a api.Whole) bool { return !a.Neg && a.Mag == nil }

// magnitudes: 0, and those around the limbs' borders.
func magnitudes() [][]uint64 {
	return [][]uint64{{}, {1}, {2}, {3}, {7}, {12}, {1<<63 - 1}, {1 << 63}, {top - 1}, {top}, {0, 1}, {1, 1}, {top, 1}, {0, 2}, {top, top}, {0, 0, 1}, {1, 0, 1}, {5, 1 << 63, 7, 9}}
}

// numbers: all magnitudes with both signs.
func numbers() []api.Whole {
	out := []api.Whole{{}}
	for _, m := range magnitudes() {
		out = append(out, api.Whole{Mag: m})
		if len(m) > 0 {
			out = append(out, api.Whole{Neg: true, Mag: m})
		}
	}
	return out
}

// badNumbers: what is not in form.
func badNumbers() []api.Whole {
	return []api.Whole{{Neg: true}, {Neg: true, Mag: []uint64{}}, {Mag: []uint64{0}}, {Neg: true, Mag: []uint64{0}}, {Mag: []uint64{5, 0}}, {Neg: true, Mag: []uint64{5, 0}}}
}

func TestForm(t *testing.T) {
	for _, a := range numbers() {
		if !whole.Form(a) {
			t.Errorf("P2.1: Form(%v) is false", a)
		}
	}
	for _, a := range badNumbers() {
		if whole.Form(a) {
			t.Errorf("P2.1: Form(%v) is true", a)
		}
	}
}

func TestOf(t *testing.T) {
	for _, n := range []int{0, 1, -1, 2, -2, 10, -12, math.MaxInt, math.MaxInt - 1, -math.MaxInt, math.MinInt} {
		if a := whole.Of(n); !same(a, api.OK, big.NewInt(int64(n))) {
			t.Errorf("P2.1: Of(%d) = %v", n, a)
		}
	}
	if a := whole.Of(math.MinInt); !a.Neg || !slices.Equal(a.Mag, []uint64{1 << 63}) {
		t.Errorf("P2.1: Of the least int = %v", a)
	}
	a, b := whole.Of(5), whole.Of(5)
	a.Mag[0] = 6
	if b.Mag[0] != 5 || whole.Of(5).Mag[0] != 5 {
		t.Error("P2.1: answers of Of share memory")
	}
}

func TestSums(t *testing.T) {
	for _, a := range numbers() {
		x := toBig(a)
		if n, e := whole.Neg(a); !same(n, e, new(big.Int).Neg(x)) {
			t.Errorf("P2.2: Neg(%v) = %v, %d", a, n, e)
		}
		for _, b := range numbers() {
			y := toBig(b)
			if s, e := whole.Add(a, b); !same(s, e, new(big.Int).Add(x, y)) {
				t.Errorf("P2.2: Add(%v, %v) = %v, %d", a, b, s, e)
			}
			if d, e := whole.Sub(a, b); !same(d, e, new(big.Int).Sub(x, y)) {
				t.Errorf("P2.2: Sub(%v, %v) = %v, %d", a, b, d, e)
			}
			if m, e := whole.Mul(a, b); !same(m, e, new(big.Int).Mul(x, y)) {
				t.Errorf("P2.2: Mul(%v, %v) = %v, %d", a, b, m, e)
			}
			if c, e := whole.Cmp(a, b); c != x.Cmp(y) || e != api.OK {
				t.Errorf("P2.2: Cmp(%v, %v) = %d, %d", a, b, c, e)
			}
		}
	}
}

func TestDivide(t *testing.T) {
	for _, a := range numbers() {
		for _, b := range numbers() {
			q, r, e := whole.Divide(a, b)
			if len(b.Mag) == 0 {
				if !none(q) || !none(r) || e != api.ErrZero {
					t.Errorf("P2.2: Divide(%v, 0) = %v, %v, %d", a, q, r, e)
				}
				continue
			}
			x, y := floored(toBig(a), toBig(b))
			if !same(q, e, x) || !same(r, e, y) {
				t.Errorf("P2.2: Divide(%v, %v) = %v, %v, %d", a, b, q, r, e)
			}
		}
	}
}

// floored: the quotient rounded down, from the library's, which is cut towards 0; and the rest.
func floored(a, b *big.Int) (*big.Int, *big.Int) {
	q, r := new(big.Int).QuoRem(a, b, new(big.Int))
	if r.Sign() != 0 && r.Sign() != b.Sign() {
		q.Sub(q, big.NewInt(1))
		r.Add(r, b)
	}
	return q, r
}

func TestDivideExamples(t *testing.T) {
	for _, c := range []struct{ a, b, q, r int }{{-7, 2, -4, 1}, {7, -2, -4, -1}, {-7, -2, 3, -1}, {7, 2, 3, 1}, {0, -5, 0, 0}, {-6, 3, -2, 0}, {6, -3, -2, 0}, {-6, -3, 2, 0}, {1, -5, -1, -4}, {-1, 5, -1, 4}} {
		q, r, e := whole.Divide(whole.Of(c.a), whole.Of(c.b))
		if !same(q, e, big.NewInt(int64(c.q))) || !same(r, e, big.NewInt(int64(c.r))) {
			t.Errorf("P2.2: Divide(%d, %d) = %v, %v, %d", c.a, c.b, q, r, e)
		}
	}
}

// TestBadForm: each call tells ErrForm, also where the divisor is 0, with nothing beside it.
func TestBadForm(t *testing.T) {
	for _, bad := range badNumbers() {
		for _, other := range []api.Whole{{}, {Mag: []uint64{3}}, {Neg: true, Mag: []uint64{3}}, bad} {
			checkBadPair(t, bad, other)
			checkBadPair(t, other, bad)
		}
		if n, e := whole.Neg(bad); !none(n) || e != api.ErrForm {
			t.Errorf("P2.2: Neg(%v) = %v, %d", bad, n, e)
		}
		if s, e := whole.Text(bad); s != "" || e != api.ErrForm {
			t.Errorf("P2.3: Text(%v) = %q, %d", bad, s, e)
		}
	}
}

func checkBadPair(t *testing.T, a, b api.Whole) {
	t.Helper()
	s, e1 := whole.Add(a, b)
	d, e2 := whole.Sub(a, b)
	m, e3 := whole.Mul(a, b)
	q, r, e4 := whole.Divide(a, b)
	c, e5 := whole.Cmp(a, b)
	for i, e := range []api.Errno{e1, e2, e3, e4, e5} {
		if e != api.ErrForm {
			t.Errorf("P2.2: call %d of %v and %v: %d", i, a, b, e)
		}
	}
	if !none(s) || !none(d) || !none(m) || !none(q) || !none(r) || c != 0 {
		t.Errorf("P1: an answer beside ErrForm: %v %v %v %v %v %d", s, d, m, q, r, c)
	}
}

func TestTexts(t *testing.T) {
	for _, a := range numbers() {
		s := toBig(a).String()
		if u, e := whole.Text(a); u != s || e != api.OK {
			t.Errorf("P2.3: Text(%v) = %s, %d", a, u, e)
		}
		if b, e := whole.Read(s); !same(b, e, toBig(a)) {
			t.Errorf("P2.3: Read(%s) = %v, %d", s, b, e)
		}
	}
	for _, s := range []string{"", "-", "-0", "+0", "+1", "--1", "-+1", "007", "-007", "00", "-00", "1-", "- 1", " -1", "-1 ", "1/2", "-x", "−1"} {
		if a, e := whole.Read(s); !none(a) || e != api.ErrText {
			t.Errorf("P2.3: Read(%q) = %v, %d", s, a, e)
		}
	}
}

func TestLongTexts(t *testing.T) {
	digits := strings.Repeat("9", api.MaxText)
	if a, e := whole.Read(digits); !same(a, e, nines(api.MaxText)) {
		t.Errorf("P2.3: Read of MaxText digits: %d", e)
	}
	if a, e := whole.Read("-" + digits[1:]); !same(a, e, new(big.Int).Neg(nines(api.MaxText-1))) {
		t.Errorf("P2.3: Read of - and MaxText - 1 digits: %d", e)
	}
	// Of too long and no number's the lesser error; - counts as a byte.
	for _, s := range []string{"-" + digits, digits + "9", "+" + digits, "-0" + digits, "--" + digits} {
		if a, e := whole.Read(s); !none(a) || e != api.ErrLong {
			t.Errorf("P2.3: Read of %d bytes from %s on: %d", len(s), s[:2], e)
		}
	}
	if a, e := whole.Read("-0" + digits[2:]); !none(a) || e != api.ErrText {
		t.Errorf("P2.3: Read of MaxText bytes from -0 on: %d", e)
	}
}

// nines: the number of so many digits 9.
func nines(count int64) *big.Int {
	n := new(big.Int).Exp(big.NewInt(10), big.NewInt(count), nil)
	return n.Sub(n, big.NewInt(1))
}
