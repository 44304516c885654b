package text_test

import (
	"encoding/binary"
	"math/big"
	"slices"
	"strings"
	"testing"

	"tableau/api"
	"tableau/model"
	"tableau/text"
)

// first is the chapter's example.
const first = "min 0\ncol x 1/2 0 inf\ncol y 0 -inf inf\nrow r -inf 6 1 x -3 y\nend\n"

func toInt(a []uint64) *big.Int {
	var bytes []byte
	for _, w := range slices.Backward(a) {
		bytes = binary.BigEndian.AppendUint64(bytes, w)
	}
	return new(big.Int).SetBytes(bytes)
}

// plainNumber: the number's text by the library's own fractions.
func plainNumber(r api.Rat) string {
	num := toInt(r.Num)
	if r.Neg {
		num.Neg(num)
	}
	return new(big.Rat).SetFrac(num, toInt(r.Den)).RatString()
}

func plainBound(x api.Ext) string {
	return [...]string{"-inf", plainNumber(x.V), "inf"}[x.Inf+1]
}

// plainText: the text of a model, as the chapter's section The text says it.
func plainText(m api.Model) string {
	s := "min " + plainNumber(m.Offset) + "\n"
	for _, c := range m.Cols {
		s += "col " + c.Name + " " + plainNumber(c.Cost) + " " + plainBound(c.Lo) + " " + plainBound(c.Hi) + "\n"
	}
	for _, r := range m.Rows {
		s += "row " + r.Name + " " + plainBound(r.Lo) + " " + plainBound(r.Hi)
		for _, t := range r.Terms {
			s += " " + plainNumber(t.A) + " " + m.Cols[t.Col].Name
		}
		s += "\n"
	}
	return s + "end\n"
}

func sameRat(a, b api.Rat) bool {
	return a.Neg == b.Neg && slices.Equal(a.Num, b.Num) && slices.Equal(a.Den, b.Den)
}

func sameExt(a, b api.Ext) bool { return a.Inf == b.Inf && sameRat(a.V, b.V) }

func sameTerm(s, t api.Term) bool { return s.Col == t.Col && sameRat(s.A, t.A) }

func sameModel(a, b api.Model) bool {
	return sameRat(a.Offset, b.Offset) &&
		slices.EqualFunc(a.Cols, b.Cols, func(c, d api.Col) bool {
			return c.Name == d.Name && sameRat(c.Cost, d.Cost) && sameExt(c.Lo, d.Lo) && sameExt(c.Hi, d.Hi)
		}) &&
		slices.EqualFunc(a.Rows, b.Rows, func(r, s api.Row) bool {
			return r.Name == s.Name && sameExt(r.Lo, s.Lo) && sameExt(r.Hi, s.Hi) && slices.EqualFunc(r.Terms, s.Terms, sameTerm)
		})
}

// none: is it the zero value?
func none(m api.Model) bool {
	return !m.Offset.Neg && m.Offset.Num == nil && m.Offset.Den == nil && len(m.Cols) == 0 && len(m.Rows) == 0
}

// short cuts a text for a message.
func short(s string) string { return s[:min(len(s), 300)] }

// checkTaken: s is a text, of the model that is answered.
func checkTaken(t *testing.T, s string) {
	t.Helper()
	m, at, e := text.Parse(s)
	if at != 0 || e != api.OK {
		t.Errorf("P9.2: Parse(%q): %d at %d", short(s), e, at)
		return
	}
	if f := model.Check(m); f != api.OK {
		t.Errorf("P9.2: Parse(%q) is not well formed: %d", short(s), f)
		return
	}
	if plainText(m) != s {
		t.Errorf("P9.2: Parse(%q) is the model of %q", short(s), short(plainText(m)))
	}
	if u, f := text.Print(m); u != s || f != api.OK {
		t.Errorf("P9.3: Print(Parse(%q)) = %q, %d", short(s), short(u), f)
	}
}

// checkFault: s is none, for that reason and at that place.
func checkFault(t *testing.T, s string, at int, e api.Errno) {
	t.Helper()
	if m, p, f := text.Parse(s); !none(m) || p != at || f != e {
		t.Errorf("P9.2: Parse(%q): %d at %d, want %d at %d; beside it %v", short(s), f, p, e, at, m)
	}
}

// lineAt: where the line with this number begins.
func lineAt(s string, number int) int {
	at := 0
	for _, line := range strings.SplitAfter(s, "\n")[:number] {
		at += len(line)
	}
	return at
}
