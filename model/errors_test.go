package model_test

import (
	"testing"

	"tableau/api"
	"tableau/model"
	"tableau/sample"
)

// TestBroken: every call that is handed a model answers Check's error of it, and nothing beside it.
func TestBroken(t *testing.T) {
	for _, b := range sample.Brokens() {
		if l, e := model.Columns(b.M); l != nil || e != b.E {
			t.Errorf("Columns, %s: %v, %d, want %d", b.Name, l, e, b.E)
		}
		if m, e := model.Copy(b.M); !none(m) || e != b.E {
			t.Errorf("Copy, %s: %v, %d, want %d", b.Name, m, e, b.E)
		}
		for _, name := range []string{"x", "y", "v", "nobody", ""} {
			if p, e := model.Col(b.M, name); p != 0 || e != b.E {
				t.Errorf("Col(%q), %s: %d, %d, want %d", name, b.Name, p, e, b.E)
			}
			if p, e := model.Row(b.M, name); p != 0 || e != b.E {
				t.Errorf("Row(%q), %s: %d, %d, want %d", name, b.Name, p, e, b.E)
			}
		}
		if c, r, e := model.Crossed(b.M); c != nil || r != nil || e != b.E {
			t.Errorf("Crossed, %s: %v, %v, %d, want %d", b.Name, c, r, e, b.E)
		}
	}
}

// TestBrokenEqual: of the errors of both models the least.
func TestBrokenEqual(t *testing.T) {
	check := func(name string, a, b api.Model, want api.Errno) {
		t.Helper()
		if same, e := model.Equal(a, b); same || e != want {
			t.Errorf("P7.3: Equal, %s: %v, %d, want %d", name, same, e, want)
		}
	}
	perError := map[api.Errno]api.Model{}
	for _, b := range sample.Brokens() {
		check(b.Name+" first", b.M, sample.Three(), b.E)
		check(b.Name+" second", sample.Three(), b.M, b.E)
		check(b.Name+" twice", b.M, b.M, b.E)
		perError[b.E] = b.M
	}
	if len(perError) != 5 {
		t.Errorf("%d kinds of errors are tried, want 5", len(perError))
	}
	for e, a := range perError {
		for f, b := range perError {
			check("two errors", a, b, min(e, f))
		}
	}
}

// TestLeast: OK is none, whichever place it stands at.
func TestLeast(t *testing.T) {
	for _, c := range []struct {
		list []api.Errno
		want api.Errno
	}{
		{nil, api.OK}, {[]api.Errno{api.OK}, api.OK}, {[]api.Errno{api.OK, api.OK, api.OK}, api.OK},
		{[]api.Errno{api.ErrForm}, api.ErrForm}, {[]api.Errno{api.OK, api.ErrForm}, api.ErrForm}, {[]api.Errno{api.ErrForm, api.OK}, api.ErrForm},
		{[]api.Errno{api.ErrUnlike, api.ErrForm}, api.ErrForm}, {[]api.Errno{api.ErrForm, api.ErrUnlike}, api.ErrForm},
		{[]api.Errno{api.ErrPass, api.OK, api.ErrName, api.ErrArg, api.OK, api.ErrText}, api.ErrArg},
	} {
		if e := model.Least(c.list...); e != c.want {
			t.Errorf("Least(%v) = %d, want %d", c.list, e, c.want)
		}
	}
}
