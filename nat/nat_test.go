package nat_test

import (
	"math/big"
	"slices"
	"strconv"
	"testing"

	"tableau/api"
	"tableau/nat"
)

func TestForm(t *testing.T) {
	for _, a := range edgeLists() {
		if !nat.Form(a) {
			t.Errorf("P1.1: Form(%v) is false", a)
		}
	}
	for _, a := range [][]uint64{{0}, {0, 0}, {5, 0}, {top, top, 0}} {
		if nat.Form(a) {
			t.Errorf("P1.1: Form(%v) is true", a)
		}
	}
	spare := []uint64{0, 0, 7}
	if nat.Form(spare[:1]) || !nat.Form(spare[:0]) {
		t.Error("P1.1: Form looks at spare room")
	}
}

// same: is it the number n, in form, without an error?
func same(a []uint64, e api.Errno, n *big.Int) bool {
	return e == api.OK && nat.Form(a) && toBig(a).Cmp(n) == 0
}

func TestSumsAndProducts(t *testing.T) {
	for _, p := range pairs() {
		a, b := p[0], p[1]
		x, y := toBig(a), toBig(b)
		if s, e := nat.Add(a, b); !same(s, e, new(big.Int).Add(x, y)) {
			t.Fatalf("P1.2: Add(%v, %v) = %v, %d", a, b, s, e)
		}
		if m, e := nat.Mul(a, b); !same(m, e, new(big.Int).Mul(x, y)) {
			t.Fatalf("P1.2: Mul(%v, %v) = %v, %d", a, b, m, e)
		}
		c, e := nat.Cmp(a, b)
		if c != x.Cmp(y) || e != api.OK {
			t.Fatalf("P1.2: Cmp(%v, %v) = %d, %d", a, b, c, e)
		}
		d, e := nat.Sub(a, b)
		if c < 0 && (e != api.ErrArg || d != nil) || c >= 0 && !same(d, e, new(big.Int).Sub(x, y)) {
			t.Fatalf("P1.2: Sub(%v, %v) = %v, %d", a, b, d, e)
		}
	}
}

func TestQuotients(t *testing.T) {
	for _, p := range pairs() {
		a, b := p[0], p[1]
		q, r, e := nat.DivMod(a, b)
		if len(b) == 0 {
			if q != nil || r != nil || e != api.ErrZero {
				t.Fatalf("P1.2: DivMod(%v, 0) = %v, %v, %d", a, q, r, e)
			}
			continue
		}
		x, y := new(big.Int).QuoRem(toBig(a), toBig(b), new(big.Int))
		if !same(q, e, x) || !same(r, e, y) {
			t.Fatalf("P1.2: DivMod(%v, %v) = %v, %v, %d", a, b, q, r, e)
		}
	}
}

// TestExactQuotients: a = q * b + r is put together first, with rests at both ends of their range, so that quotients that are guessed too great come up.
func TestExactQuotients(t *testing.T) {
	s := &numbers{2}
	for range 4000 {
		q, b := s.list(s.below(6)), append(s.list(s.below(5)), 1+s.next()>>s.below(63))
		x := new(big.Int).Mul(toBig(q), toBig(b))
		least := new(big.Int).Sub(toBig(b), big.NewInt(1))
		for _, r := range []*big.Int{new(big.Int), least} {
			a := fromBig(new(big.Int).Add(x, r))
			gotQ, gotR, e := nat.DivMod(a, b)
			if !slices.Equal(gotQ, q) || !same(gotR, e, r) {
				t.Fatalf("P1.2: DivMod(%v, %v) = %v, %v, %d, not %v, %v", a, b, gotQ, gotR, e, q, r)
			}
		}
	}
}

func TestGcd(t *testing.T) {
	for _, p := range pairs() {
		checkGcd(t, p[0], p[1])
	}
	s := &numbers{3}
	for range 1500 {
		common := toBig(s.list(s.below(5)))
		a := fromBig(new(big.Int).Mul(common, toBig(s.list(s.below(7)))))
		b := fromBig(new(big.Int).Mul(common, toBig(s.list(s.below(7)))))
		checkGcd(t, a, b)
	}
	// Neighbours of Fibonacci's take the most steps, and each quotient is 1.
	x, y := big.NewInt(1), big.NewInt(1)
	for range 1200 {
		x, y = y, x.Add(x, y)
		checkGcd(t, fromBig(x), fromBig(y))
		checkGcd(t, fromBig(y), fromBig(new(big.Int).Add(x, big.NewInt(1))))
	}
}

func checkGcd(t *testing.T, a, b []uint64) {
	t.Helper()
	if g, e := nat.Gcd(a, b); !same(g, e, new(big.Int).GCD(nil, nil, toBig(a), toBig(b))) {
		t.Fatalf("P1.2: Gcd(%v, %v) = %v, %d", a, b, g, e)
	}
}

func TestShl(t *testing.T) {
	shifts := []int{0, 1, 2, 31, 32, 63, 64, 65, 127, 128, 129, 1000, api.MaxShift - 1, api.MaxShift}
	for _, a := range edgeLists() {
		for _, n := range shifts {
			if l, e := nat.Shl(a, n); !same(l, e, new(big.Int).Lsh(toBig(a), uint(n))) {
				t.Fatalf("P1.2: Shl(%v, %d) = %v, %d", a, n, l, e)
			}
		}
		for _, n := range []int{-1, -64, -1 << 63, api.MaxShift + 1, 1<<63 - 1} {
			if l, e := nat.Shl(a, n); l != nil || e != api.ErrArg {
				t.Fatalf("P1.2: Shl(%v, %d) = %v, %d", a, n, l, e)
			}
		}
	}
}

// TestBadForm: each call that is handed limbs tells ErrForm of each place, with nothing beside it, unless an error of a lesser number applies.
func TestBadForm(t *testing.T) {
	bad, good := []uint64{5, 0}, []uint64{1, 2}
	for _, p := range [][2][]uint64{{bad, good}, {good, bad}, {bad, bad}, {bad, nil}, {nil, bad}, {{0}, {}}, {{}, {0, 0}}} {
		a, b := p[0], p[1]
		s, e1 := nat.Add(a, b)
		d, e2 := nat.Sub(a, b)
		m, e3 := nat.Mul(a, b)
		q, r, e4 := nat.DivMod(a, b)
		g, e5 := nat.Gcd(a, b)
		c, e6 := nat.Cmp(a, b)
		for i, e := range []api.Errno{e1, e2, e3, e4, e5, e6} {
			if e != api.ErrForm {
				t.Errorf("P1.1: call %d of %v and %v: %d", i, a, b, e)
			}
		}
		if s != nil || d != nil || m != nil || q != nil || r != nil || g != nil || c != 0 {
			t.Errorf("P1: an answer beside ErrForm: %v %v %v %v %v %v %d", s, d, m, q, r, g, c)
		}
	}
	if s, e := nat.Text(bad); s != "" || e != api.ErrForm {
		t.Errorf("P1.3: Text(%v) = %q, %d", bad, s, e)
	}
	if l, e := nat.Shl(bad, 3); l != nil || e != api.ErrForm {
		t.Errorf("P1.2: Shl(%v, 3) = %v, %d", bad, l, e)
	}
	for _, n := range []int{-1, api.MaxShift + 1} {
		if l, e := nat.Shl(bad, n); l != nil || e != api.ErrArg {
			t.Errorf("P1.2: Shl(%v, %d) = %v, %d: of two errors the least", bad, n, l, e)
		}
	}
}

func TestExamples(t *testing.T) {
	if s, _ := nat.Add([]uint64{top}, []uint64{1}); !slices.Equal(s, []uint64{0, 1}) {
		t.Errorf("P1.2: example 1: %v", s)
	}
	if d, _ := nat.Sub([]uint64{0, 1}, []uint64{1}); !slices.Equal(d, []uint64{top}) {
		t.Errorf("P1.2: example 1: %v", d)
	}
	if m, _ := nat.Mul([]uint64{1 << 63}, []uint64{2}); !slices.Equal(m, []uint64{0, 1}) {
		t.Errorf("P1.2: example 1: %v", m)
	}
	if q, r, _ := nat.DivMod([]uint64{0, 1}, []uint64{3}); !slices.Equal(q, []uint64{6148914691236517205}) || !slices.Equal(r, []uint64{1}) {
		t.Errorf("P1.2: example 1: %v, %v", q, r)
	}
	if l, _ := nat.Shl([]uint64{1}, 64); !slices.Equal(l, []uint64{0, 1}) {
		t.Errorf("P1.2: example 2: %v", l)
	}
	if s, _ := nat.Text([]uint64{0, 1}); s != strconv.FormatUint(top/10, 10)+"6" {
		t.Errorf("P1.3: example 3: %s", s)
	}
}
