package simplex

import (
	"strings"
	"testing"

	"tableau/api"
	"tableau/basis"
	"tableau/sample"
	"tableau/text"
)

// checkPatience: whatever patience the search has, it ends with an answer, always of one status and value.
func checkPatience(t *testing.T, m api.Model) {
	t.Helper()
	slack, e := basis.Slack(m)
	want, f := Solve(m)
	if e != api.OK || f != api.OK {
		t.Fatalf("%v has no slack basis, or no answer: %d, %d", m, e, f)
	}
	for _, patience := range []int{-1, 0, 1, 3, 10} {
		a := newTable(m, slack).search(patience)
		if is, e := Judge(m, a); !is || e != api.OK || a.Status != want.Status || !sameRat(a.Value, want.Value) {
			t.Errorf("P16.3: with patience %d: %v, %d: %v: %v", patience, is, e, a, m)
		}
	}
}

// TestPatience: by Bland's rule from the first step on, and after some steps that move nothing. The programs are such as go round, if of several numbers that come to a bound at once the first line's goes out and not that of the least place; or if the greatest place goes in.
func TestPatience(t *testing.T) {
	for _, s := range []string{
		"min 0 / col x -3/4 0 inf / col y 20 0 inf / col z -1/2 0 inf / col w 6 0 inf / row a -inf 0 1/4 x -8 y -1 z 9 w / row b -inf 0 1/2 x -12 y -1/2 z 3 w / row c -inf 1 1 z",
		"min 0 / col x0 1 0 inf / col x1 1 0 inf / col x2 2 0 inf / col x3 2 0 inf / col x4 -3 0 inf / col x5 0 0 inf / row a -inf 0 -3 x0 -1 x1 2 x2 -1 x3 1 x4 -2 x5 / row b 0 0 1 x0 3 x1 2 x2 -2 x3 3 x4 -3 x5 / row c -inf 0 -3 x0 -3 x2 1 x3 -1 x5 / row d -inf 1 1 x0 1 x1 1 x2 1 x3 1 x4 1 x5",
		"min 0 / col x0 2 0 inf / col x1 2 0 inf / col x2 2 0 inf / col x3 1 0 inf / col x4 0 0 inf / col x5 1 0 inf / col x6 -3 0 inf / col x7 -1 0 inf / row a 0 0 1 x0 -2 x2 3 x3 1 x4 2 x5 -3 x6 -1 x7 / row b -inf 0 -2 x0 -3 x1 -1 x2 3 x3 -2 x4 -2 x5 -1 x6 3 x7 / row c -inf 0 1 x0 -2 x1 3 x2 2 x3 -1 x4 1 x5 2 x6 -1 x7 / row d -inf 0 3 x1 -3 x3 -3 x4 2 x5 -1 x6 / row e -inf 1 1 x0 1 x1 1 x2 1 x3 1 x4 1 x5 1 x6 1 x7",
		"min 0 / col x0 2 0 inf / col x1 2 0 inf / col x2 -1 0 inf / col x3 1 0 inf / col x4 1 0 inf / col x5 0 0 inf / col x6 -3 0 inf / col x7 1 0 inf / row a -inf 0 -3 x0 -3 x1 -3 x2 2 x3 1 x4 1 x5 2 x6 3 x7 / row b 0 0 1 x0 2 x2 -2 x3 3 x4 -3 x5 3 x6 1 x7 / row c -inf 0 -3 x0 1 x3 -3 x4 2 x5 1 x6 -2 x7 / row d -inf 1 1 x0 1 x1 1 x2 1 x3 1 x4 1 x5 1 x6 1 x7",
	} {
		m, at, e := text.Parse(strings.ReplaceAll(s, " / ", "\n") + "\nend\n")
		if e != api.OK {
			t.Fatalf("%q is no model: %d at %d", s, e, at)
		}
		checkPatience(t, m)
	}
	for seed := range 200 {
		checkPatience(t, sample.Mixed(seed))
	}
}
