package ext_test

import (
	"cmp"
	"slices"
	"testing"

	"tableau/api"
	"tableau/ext"
)

func TestForm(t *testing.T) {
	empty := api.Rat{Num: []uint64{}, Den: []uint64{1}}
	for _, x := range append(rising(), api.Ext{V: empty}, api.Ext{Inf: 1, V: empty}, api.Ext{Inf: -1, V: empty}) {
		if !ext.Form(x) {
			t.Errorf("P4.1: Form(%v) is false", x)
		}
	}
	for _, x := range badBounds() {
		if ext.Form(x) {
			t.Errorf("P4.1: Form(%v) is true", x)
		}
	}
}

func TestOf(t *testing.T) {
	for _, want := range rising() {
		if x, e := ext.Of(want.V); !same(x, e, api.Ext{V: want.V}) {
			t.Errorf("P4.1: Of(%v) = %v, %d", want.V, x, e)
		}
	}
	for _, bad := range badRats() {
		if x, e := ext.Of(bad); !none(x) || e != api.ErrForm {
			t.Errorf("P4.1: Of(%v) = %v, %d", bad, x, e)
		}
	}
	if x := ext.Low(); !equal(x, low()) {
		t.Errorf("P4.1: Low() = %v", x)
	}
	if x := ext.High(); !equal(x, high()) {
		t.Errorf("P4.1: High() = %v", x)
	}
}

// TestOrder: by their places among rising bounds, infinities on either side and each against itself.
func TestOrder(t *testing.T) {
	bounds := rising()
	for i, a := range bounds {
		for k, b := range bounds {
			if c, e := ext.Cmp(a, b); c != cmp.Compare(i, k) || e != api.OK {
				t.Errorf("P4.2: Cmp(%v, %v) = %d, %d", a, b, c, e)
			}
			if x, e := ext.Max(a, b); !same(x, e, bounds[max(i, k)]) {
				t.Errorf("P4.2: Max(%v, %v) = %v, %d", a, b, x, e)
			}
			if x, e := ext.Min(a, b); !same(x, e, bounds[min(i, k)]) {
				t.Errorf("P4.2: Min(%v, %v) = %v, %d", a, b, x, e)
			}
		}
	}
}

func TestNeg(t *testing.T) {
	for _, x := range rising() {
		want := api.Ext{Inf: -x.Inf, V: api.Rat{Neg: !x.V.Neg && len(x.V.Num) > 0, Num: x.V.Num, Den: x.V.Den}}
		if n, e := ext.Neg(x); !same(n, e, want) {
			t.Errorf("P4.2: Neg(%v) = %v, %d", x, n, e)
		}
	}
}

func TestShift(t *testing.T) {
	for _, c := range []struct {
		x    api.Ext
		r    api.Rat
		want api.Ext
	}{
		{bound(3, 1), frac(-5, 1), bound(-2, 1)},
		{bound(1, 6), frac(1, 3), bound(1, 2)},
		{bound(1, 2), frac(1, 2), bound(1, 1)},
		{bound(2, 3), frac(-2, 3), bound(0, 1)},
		{bound(2, 3), frac(0, 1), bound(2, 3)},
		{bound(0, 1), frac(2, 3), bound(2, 3)},
		{api.Ext{V: api.Rat{Num: []uint64{top}, Den: []uint64{1}}}, frac(1, 1), api.Ext{V: api.Rat{Num: []uint64{0, 1}, Den: []uint64{1}}}},
		{high(), frac(-3, 1), high()},
		{high(), frac(0, 1), high()},
		{high(), frac(1, 7), high()},
		{low(), frac(3, 1), low()},
		{low(), frac(0, 1), low()},
		{low(), frac(-1, 7), low()},
	} {
		if x, e := ext.Shift(c.x, c.r); !same(x, e, c.want) {
			t.Errorf("P4.2: Shift(%v, %v) = %v, %d", c.x, c.r, x, e)
		}
	}
}

func TestScale(t *testing.T) {
	for _, c := range []struct {
		x    api.Ext
		r    api.Rat
		want api.Ext
	}{
		{bound(3, 1), frac(-1, 3), bound(-1, 1)},
		{bound(-2, 3), frac(-3, 4), bound(1, 2)},
		{bound(2, 3), frac(1, 1), bound(2, 3)},
		{bound(1, 1), frac(2, 3), bound(2, 3)},
		{bound(0, 1), frac(-2, 3), bound(0, 1)},
		{api.Ext{V: api.Rat{Num: []uint64{1 << 63}, Den: []uint64{1}}}, frac(2, 1), api.Ext{V: api.Rat{Num: []uint64{0, 1}, Den: []uint64{1}}}},
		{high(), frac(2, 1), high()},
		{high(), frac(1, 9), high()},
		{high(), frac(-1, 9), low()},
		{low(), frac(2, 1), low()},
		{low(), frac(1, 9), low()},
		{low(), frac(-2, 1), high()},
	} {
		if x, e := ext.Scale(c.x, c.r); !same(x, e, c.want) {
			t.Errorf("P4.2: Scale(%v, %v) = %v, %d", c.x, c.r, x, e)
		}
	}
	for _, x := range rising() {
		if y, e := ext.Scale(x, zero()); !none(y) || e != api.ErrZero {
			t.Errorf("P4.2: Scale(%v, 0) = %v, %d", x, y, e)
		}
	}
}

// TestBadForm: each call tells ErrForm with nothing beside it, of infinities and Scale by 0 too.
func TestBadForm(t *testing.T) {
	for _, bad := range badBounds() {
		for _, other := range []api.Ext{low(), high(), bound(0, 1), bound(-3, 2), bad} {
			checkBadPair(t, bad, other)
			checkBadPair(t, other, bad)
		}
		for _, r := range append(badRats(), frac(0, 1), frac(-3, 2), frac(3, 1)) {
			checkBadFactor(t, bad, r)
		}
		n, e := ext.Neg(bad)
		s, f := ext.Text(bad)
		if !none(n) || s != "" || e != api.ErrForm || f != api.ErrForm {
			t.Errorf("P4.1: Neg and Text of %v: %v, %d and %q, %d", bad, n, e, s, f)
		}
	}
	for _, r := range badRats() {
		for _, x := range rising() {
			checkBadFactor(t, x, r)
		}
	}
}

func checkBadPair(t *testing.T, a, b api.Ext) {
	t.Helper()
	c, e1 := ext.Cmp(a, b)
	x, e2 := ext.Max(a, b)
	n, e3 := ext.Min(a, b)
	if c != 0 || !none(x) || !none(n) || !slices.Equal([]api.Errno{e1, e2, e3}, []api.Errno{api.ErrForm, api.ErrForm, api.ErrForm}) {
		t.Errorf("P4.2: of %v and %v: Cmp %d, %d; Max %v, %d; Min %v, %d", a, b, c, e1, x, e2, n, e3)
	}
}

func checkBadFactor(t *testing.T, x api.Ext, r api.Rat) {
	t.Helper()
	h, e := ext.Shift(x, r)
	c, f := ext.Scale(x, r)
	if !none(h) || !none(c) || e != api.ErrForm || f != api.ErrForm {
		t.Errorf("P4.2: of %v and %v: Shift %v, %d; Scale %v, %d", x, r, h, e, c, f)
	}
}
