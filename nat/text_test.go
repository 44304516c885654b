package nat_test

import (
	"math/big"
	"slices"
	"strings"
	"testing"

	"tableau/api"
	"tableau/nat"
)

// checkText: is s what Text answers of the number, and the number what Read answers of s?
func checkText(t *testing.T, n *big.Int) {
	t.Helper()
	a, s := fromBig(n), n.String()
	if u, e := nat.Text(a); u != s || e != api.OK {
		t.Fatalf("P1.3: Text(%v) = %s, %d", a, u, e)
	}
	if b, e := nat.Read(s); !slices.Equal(a, b) || e != api.OK {
		t.Fatalf("P1.3: Read(%s) = %v, %d", s, b, e)
	}
}

func TestTexts(t *testing.T) {
	for _, a := range edgeLists() {
		checkText(t, toBig(a))
	}
	// Around the powers of ten noughts stand in the middle, and digits come and go.
	one, ten := big.NewInt(1), big.NewInt(1)
	for range 400 {
		checkText(t, new(big.Int).Sub(ten, one))
		checkText(t, ten)
		checkText(t, new(big.Int).Add(ten, one))
		ten.Mul(ten, big.NewInt(10))
	}
	two := big.NewInt(1)
	for range 1300 {
		checkText(t, new(big.Int).Sub(two, one))
		checkText(t, two)
		two.Lsh(two, 1)
	}
	s := &numbers{4}
	for range 300 {
		checkText(t, toBig(s.list(s.below(40))))
	}
	for _, n := range []int{62, 63, 64, 65, 126, 127, 128, 2000} {
		checkText(t, toBig(filled(n)))
	}
}

func TestWrongTexts(t *testing.T) {
	for _, s := range []string{"", "00", "01", "007", "-1", "-0", "-", "+1", " 1", "1 ", "1\n", "1a", "a", "0x1", "1e3", "1.0", "1_000", "1/2", "\x00", "1\x00", "٣", "12٣", "9:", "1/", strings.Repeat("0", 40), strings.Repeat("7", 60) + "x", "x" + strings.Repeat("7", 60), "0" + strings.Repeat("7", 60)} {
		if a, e := nat.Read(s); a != nil || e != api.ErrText {
			t.Errorf("P1.3: Read(%q) = %v, %d", s, a, e)
		}
	}
}

func TestLongTexts(t *testing.T) {
	s := strings.Repeat("90817254", api.MaxText/8)
	a, e := nat.Read(s)
	if !same(a, e, repeated(90817254, api.MaxText/8)) {
		t.Fatalf("P1.3: Read of a text of MaxText bytes: %d", e)
	}
	if u, e := nat.Text(a); u != s || e != api.OK {
		t.Errorf("P1.3: Text of a number of MaxText digits: %d", e)
	}
	if a, e := nat.Read(s + "1"); a != nil || e != api.ErrLong {
		t.Errorf("P1.3: Read of a text of MaxText + 1 bytes: %d", e)
	}
	// No number's text either way; only the longer one is too long, which goes before.
	for _, c := range []string{"0", "x", "-"} {
		if a, e := nat.Read(c + s[1:]); a != nil || e != api.ErrText {
			t.Errorf("P1.3: Read of %s before %d digits: %d", c, len(s)-1, e)
		}
		if a, e := nat.Read(c + s); a != nil || e != api.ErrLong {
			t.Errorf("P1.3: Read of %s before %d digits: %d: of two errors the least", c, len(s), e)
		}
	}
}

// repeated: the number with these 8 digits so many times one after the other; the library reads long texts too slowly.
func repeated(digits, times int64) *big.Int {
	one, eight := big.NewInt(1), big.NewInt(100_000_000)
	n := new(big.Int).Exp(eight, big.NewInt(times), nil)
	n.Sub(n, one).Quo(n, new(big.Int).Sub(eight, one))
	return n.Mul(n, big.NewInt(digits))
}
