package ext_test

import (
	"strings"
	"testing"

	"tableau/api"
	"tableau/ext"
)

func TestTexts(t *testing.T) {
	for _, c := range []struct {
		s string
		x api.Ext
	}{
		{"inf", high()}, {"-inf", low()}, {"0", bound(0, 1)}, {"3", bound(3, 1)}, {"-5", bound(-5, 1)}, {"-3/2", bound(-3, 2)}, {"1/3", bound(1, 3)},
		{"18446744073709551616/3", api.Ext{V: api.Rat{Num: []uint64{0, 1}, Den: []uint64{3}}}},
	} {
		if s, e := ext.Text(c.x); s != c.s || e != api.OK {
			t.Errorf("P4.3: Text(%v) = %q, %d", c.x, s, e)
		}
		if x, e := ext.Read(c.s); !same(x, e, c.x) {
			t.Errorf("P4.3: Read(%q) = %v, %d", c.s, x, e)
		}
	}
	for _, x := range rising() {
		s, e := ext.Text(x)
		if y, f := ext.Read(s); e != api.OK || !same(y, f, x) {
			t.Errorf("P4.3: %v by %q and back: %v", x, s, y)
		}
	}
}

func TestNoTexts(t *testing.T) {
	for _, s := range []string{"", "-", "+inf", "--inf", "-+inf", "Inf", "INF", "-Inf", "infinity", "-infinity", "in", "i", "-in", "inf ", " inf", "- inf", "-inf\n", "inf/1", "1/inf", "inf/inf", "∞", "2/4", "1/1", "1/0", "0/1", "-0", "+1", "007", " 1", "1/2/3", "1.5"} {
		if x, e := ext.Read(s); !none(x) || e != api.ErrText {
			t.Errorf("P4.3: Read(%q) = %v, %d", s, x, e)
		}
	}
}

// TestLongTexts: of too long and no bound's the lesser error.
func TestLongTexts(t *testing.T) {
	noughts := strings.Repeat("0", api.MaxText)
	for _, s := range []string{"1" + noughts[1:], "-1" + noughts[2:], "1/1" + noughts[3:], "-7/1" + noughts[4:]} {
		x, e := ext.Read(s)
		if len(s) != api.MaxText || e != api.OK || !ext.Form(x) || x.V.Neg != (s[0] == '-') {
			t.Errorf("P4.3: Read of MaxText bytes from %s on: %d", s[:4], e)
		}
	}
	s := "3/1" + noughts[3:]
	x, e := ext.Read(s)
	if u, f := ext.Text(x); u != s || e != api.OK || f != api.OK {
		t.Errorf("P4.3: a text of MaxText bytes and back: %d, %d", e, f)
	}
	for _, s := range []string{"1" + noughts, "-" + noughts, "1/" + noughts, "inf" + noughts[2:], "-inf" + noughts, "x" + noughts} {
		if x, e := ext.Read(s); !none(x) || e != api.ErrLong {
			t.Errorf("P4.3: Read of %d bytes from %s on: %d", len(s), s[:4], e)
		}
	}
	for _, s := range []string{noughts, "inf" + noughts[3:], "-inf" + noughts[4:], "2/1" + noughts[3:]} {
		if x, e := ext.Read(s); len(s) != api.MaxText || !none(x) || e != api.ErrText {
			t.Errorf("P4.3: Read of MaxText bytes from %s on: %d", s[:4], e)
		}
	}
}
