package rat_test

import (
	"math/big"
	"strings"
	"testing"

	"tableau/api"
	"tableau/rat"
)

func TestTexts(t *testing.T) {
	for _, r := range numbers() {
		s := toBig(r).RatString()
		if u, e := rat.Text(r); u != s || e != api.OK {
			t.Errorf("P3.3: Text(%v) = %s, %d", r, u, e)
		}
		if v, e := rat.Read(s); !same(v, e, toBig(r)) {
			t.Errorf("P3.3: Read(%s) = %v, %d", s, v, e)
		}
	}
	for s, r := range map[string]api.Rat{"0": frac(0, 1), "4": frac(4, 1), "-3/2": frac(-3, 2), "1/10": frac(1, 10), "-1": frac(-1, 1)} {
		if u, e := rat.Text(r); u != s || e != api.OK {
			t.Errorf("P3.3: Text(%v) = %s, %d", r, u, e)
		}
		if v, e := rat.Read(s); !equal(v, r) || e != api.OK {
			t.Errorf("P3.3: Read(%s) = %v, %d", s, v, e)
		}
	}
}

func TestNoTexts(t *testing.T) {
	signs := []string{"", "-", "+", "--1", "+1", "+1/2", "-0", "+0", "1/-2", "-1/-2", "1/+2", "- 1"}
	terms := []string{"2/4", "4/2", "-4/2", "6/3", "3/3", "1/1", "-1/1", "0/1", "0/2", "-0/1", "-0/5", "1/0", "0/0", "-1/0", "12/18", "36893488147419103232/2"}
	noughts := []string{"00", "007", "01/2", "1/02", "1/00", "1/01", "-01"}
	bars := []string{"/", "1/", "/2", "-/2", "1//2", "1/2/", "1/2/3", "/1/2", `1\2`}
	blanks := []string{" ", " 1", "1 ", "1 /2", "1/ 2", "1/2 ", "1/2\n", "\t1", "1/2\x00"}
	others := []string{"1.5", "1e3", "0x1", "1_0", "x", "1/x", "x/2", "inf", "-inf", "nan", "٣", "1/٣", "−1", "½"}
	for _, l := range [][]string{signs, terms, noughts, bars, blanks, others} {
		for _, s := range l {
			if r, e := rat.Read(s); !none(r) || e != api.ErrText {
				t.Errorf("P3.3: Read(%q) = %v, %d", s, r, e)
			}
		}
	}
}

// TestLongTexts: texts of just MaxText bytes, -, / and both numbers counted, and of one byte more, which is told before all else.
func TestLongTexts(t *testing.T) {
	nines := strings.Repeat("9", api.MaxText)
	half := nines[:(api.MaxText-2)/2]
	ten := new(big.Int).Exp(big.NewInt(10), big.NewInt(int64(len(half))), nil)
	one := big.NewInt(1)
	next := "1" + strings.Repeat("0", len(half))
	// One below a power of ten has no divisor in common with it.
	s := half + "/" + next
	if r, e := rat.Read(s); len(s) != api.MaxText || !same(r, e, new(big.Rat).SetFrac(new(big.Int).Sub(ten, one), ten)) {
		t.Errorf("P3.3: Read of MaxText bytes, half of them behind /: %d", e)
	}
	s = "-1/" + next[:len(half)] + strings.Repeat("0", api.MaxText-len(half)-3)
	r, e := rat.Read(s)
	if len(s) != api.MaxText || e != api.OK || !r.Neg || len(r.Num) != 1 || r.Num[0] != 1 {
		t.Errorf("P3.3: Read of MaxText bytes from -1/ on: %d", e)
	}
	if u, e := rat.Text(r); u != s || e != api.OK {
		t.Errorf("P3.3: Text of a number of MaxText bytes: %d", e)
	}
	for _, s := range []string{"1/" + nines[1:], nines + "9", "-" + nines, half + "/" + next + "0", "x" + nines, "0" + nines, nines + "/", "2/4" + nines} {
		if r, e := rat.Read(s); !none(r) || e != api.ErrLong {
			t.Errorf("P3.3: Read of %d bytes from %s on: %d", len(s), s[:4], e)
		}
	}
	for _, s := range []string{"0" + nines[1:], "+" + nines[1:], "0/" + nines[2:], nines[1:] + "/", "3/" + nines[2:], nines[2:] + "/3"} {
		if r, e := rat.Read(s); len(s) != api.MaxText || !none(r) || e != api.ErrText {
			t.Errorf("P3.3: Read of %d bytes from %s on: %d", len(s), s[:4], e)
		}
	}
}
