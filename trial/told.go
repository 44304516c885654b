package trial

import (
	"strconv"
	"strings"

	"tableau/api"
	"tableau/rat"
	"tableau/stack"
)

// Told: what a stack tells, in one text: its sizes, and what its methods answer at numbers of which no two are alike, and at statuses of each kind.
func Told(s *stack.Stack) string {
	a, b, n, k := s.Size()
	out := &strings.Builder{}
	tell := func(name string, e api.Errno, lists ...[]api.Rat) {
		out.WriteString(name + " " + strconv.Itoa(int(e)))
		for _, list := range lists {
			out.WriteString(" :" + ratsText(list))
		}
		out.WriteString("\n")
	}
	tell("M has "+strconv.Itoa(a)+", "+strconv.Itoa(b)+", R "+strconv.Itoa(n)+", "+strconv.Itoa(k)+", tightened: "+strconv.FormatBool(s.Tightened()), api.OK)
	x, e := s.Primal(unlike(n, 1))
	tell("Primal", e, x)
	d, e := s.Lift(unlike(n, 2))
	tell("Lift", e, d)
	for _, way := range []int{1, -1, 0} {
		at := api.Point{X: unlike(n, 3), Y: unlike(k, 4*way), Z: unlike(n, 5*way)}
		p, e := s.Dual(at)
		tell("Dual", e, p.X, p.Y, p.Z)
		c, e := s.Cert(api.Cert{RowLo: unlike(k, 6*way), RowHi: unlike(k, 7), ColLo: unlike(n, 8*way), ColHi: unlike(n, 9)})
		tell("Cert", e, c.RowLo, c.RowHi, c.ColLo, c.ColHi)
		for turn := range 4 {
			b, p, e := s.Basis(api.Basis{Cols: turned(n, turn), Rows: turned(k, turn+1)}, at)
			tell("Basis"+statusText(b.Cols)+" :"+statusText(b.Rows), e, p.X, p.Y, p.Z)
		}
	}
	return out.String()
}

// unlike: n numbers, no two alike unless way is 0.
func unlike(n, way int) []api.Rat {
	out := make([]api.Rat, n)
	for i := range out {
		out[i], _ = rat.Quo(rat.Of(way), rat.Of(2*i+3))
	}
	return out
}

// turned: n statuses, each kind in its turn.
func turned(n, first int) []api.Status {
	out := make([]api.Status, n)
	for i := range out {
		out[i] = api.Status((i + first) % 4)
	}
	return out
}

func ratsText(list []api.Rat) string {
	var out strings.Builder
	for _, r := range list {
		s, e := rat.Text(r)
		if e != api.OK {
			s = "not in form"
		}
		out.WriteString(" " + s)
	}
	return out.String()
}

func statusText(list []api.Status) string {
	var out strings.Builder
	for _, s := range list {
		out.WriteString(" " + strconv.Itoa(int(s)))
	}
	return out.String()
}
