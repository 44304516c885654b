package text_test

import (
	"slices"
	"strconv"
	"strings"
	"testing"

	"tableau/api"
	"tableau/sample"
	"tableau/text"
)

// sized: a text of so many bytes: 64 columns with long numbers, and a fraction as offset.
func sized(bytes int) string {
	var out strings.Builder
	left, numbers := bytes-len("min 1/\nend\n"), 64*3+1
	for i := range 64 {
		left -= len("col x" + strconv.Itoa(i) + "   \n")
	}
	number := func() string {
		s := strings.Repeat("7", left/numbers)
		left -= len(s)
		numbers--
		return s
	}
	out.WriteString("min 1/" + number() + "\n")
	for i := range 64 {
		out.WriteString("col x" + strconv.Itoa(i) + " " + number() + " " + number() + " " + number() + "\n")
	}
	return out.String() + "end\n"
}

// TestLongTexts: a text of MaxText bytes is read and written; one of a byte more is too long, whatever else is wrong with it.
func TestLongTexts(t *testing.T) {
	for _, length := range []int{api.MaxText - 1, api.MaxText} {
		s := sized(length)
		m, at, e := text.Parse(s)
		if len(s) != length || at != 0 || e != api.OK {
			t.Fatalf("P9.2: Parse of %d bytes: %d at %d", len(s), e, at)
		}
		if u, e := text.Print(m); u != s || e != api.OK {
			t.Errorf("P9.3: Print of %d bytes: %d bytes, %d", len(s), len(u), e)
		}
		for name, longer := range map[string]func(c *api.Col){
			"cost":  func(c *api.Col) { c.Cost = tenfold(c.Cost) },
			"sign":  func(c *api.Col) { c.Lo.V.Neg = true },
			"bound": func(c *api.Col) { c.Hi.V = tenfold(c.Hi.V) },
			"name":  func(c *api.Col) { c.Name += "x" },
		} {
			next := m
			next.Cols = slices.Clone(m.Cols)
			longer(&next.Cols[63])
			u, e := text.Print(next)
			if length == api.MaxText && (u != "" || e != api.ErrLong) {
				t.Errorf("P9.1: Print of a %s with a byte more than MaxText: %d bytes, %d", name, len(u), e)
			}
			if length < api.MaxText && (len(u) != api.MaxText || e != api.OK) {
				t.Errorf("P9.1: Print of a %s with just MaxText bytes: %d bytes, %d", name, len(u), e)
			}
		}
	}
	s := sized(api.MaxText + 1)
	for _, s := range []string{s, strings.Repeat(" ", api.MaxText+1), strings.Repeat("\n", api.MaxText+1), first + strings.Repeat("x", api.MaxText), "Min" + s[3:], s[:len(s)-1] + " ", s + s} {
		checkFault(t, s, 0, api.ErrLong)
	}
	for _, s := range []string{strings.Repeat(" ", api.MaxText), strings.Repeat("\n", api.MaxText), "min " + strings.Repeat("0", api.MaxText-4), "min " + strings.Repeat("9", api.MaxText-4)} {
		checkFault(t, s, 0, api.ErrText)
	}
	s = first + strings.Repeat("x", api.MaxText-len(first))
	checkFault(t, s, len(first), api.ErrText)
}

// tenfold: a number of one digit more.
func tenfold(r api.Rat) api.Rat {
	c := api.Rat{Neg: r.Neg, Den: r.Den}
	carry := uint64(0)
	for _, w := range r.Num {
		// Digits of 32 bits, as ten times a limb is no limb.
		low := w&(1<<32-1)*10 + carry
		high := w>>32*10 + low>>32
		c.Num = append(c.Num, high<<32|low&(1<<32-1))
		carry = high >> 32
	}
	if carry > 0 {
		c.Num = append(c.Num, carry)
	}
	return c
}

// TestDense: as many terms as may be, with numbers just above a power of 2^64, whose digits are the fewest for their limbs: their text is not too long yet.
func TestDense(t *testing.T) {
	limbs := make([]uint64, 14)
	limbs[0], limbs[13] = 1, 1
	m := sample.Full()
	for i := range m.Rows {
		m.Rows[i].Terms = nil
		for col := range m.Cols {
			a := sample.Frac(1, 1)
			if i < 63 || col < 32 {
				a.Num = slices.Clone(limbs)
			}
			m.Rows[i].Terms = append(m.Rows[i].Terms, api.Term{Col: col, A: a})
		}
	}
	s, e := text.Print(m)
	if e != api.OK || len(s) < api.MaxText*9/10 || len(s) > api.MaxText {
		t.Fatalf("P9.1: Print: %d bytes, %d", len(s), e)
	}
	if again, at, e := text.Parse(s); !sameModel(again, m) || at != 0 || e != api.OK {
		t.Errorf("P9.3: Parse(Print): %d at %d", e, at)
	}
}

// TestManyLimbs: numbers far beyond what a text may hold, at each place of a model.
func TestManyLimbs(t *testing.T) {
	huge := api.Rat{Num: make([]uint64, 1<<22), Den: []uint64{1}}
	huge.Num[1<<22-1] = 1
	small := api.Rat{Num: []uint64{1}, Den: huge.Num}
	for _, r := range []api.Rat{huge, small} {
		for place, set := range map[string]func(m *api.Model){
			"offset": func(m *api.Model) { m.Offset = r },
			"cost":   func(m *api.Model) { m.Cols[2].Cost = r },
			"lo":     func(m *api.Model) { m.Cols[0].Lo = api.Ext{V: r} },
			"hi":     func(m *api.Model) { m.Cols[1].Hi = api.Ext{V: r} },
			"row lo": func(m *api.Model) { m.Rows[0].Lo = api.Ext{V: r} },
			"row hi": func(m *api.Model) { m.Rows[2].Hi = api.Ext{V: r} },
			"term":   func(m *api.Model) { m.Rows[2].Terms[0].A = r },
		} {
			m := sample.Three()
			set(&m)
			checkUnprinted(t, place, m, api.ErrLong)
		}
	}
}

// TestManyTerms: a row with far more terms than there are columns.
func TestManyTerms(t *testing.T) {
	s := "min 0\ncol x 0 0 1\nrow r 0 1" + strings.Repeat(" 1 x", 200000)
	checkFault(t, s+"\nend\n", 18, api.ErrText)
	checkFault(t, s+" 1 y\nend\n", 18, api.ErrName)
	checkFault(t, s+" 1\nend\n", 18, api.ErrText)
}
