package text

import (
	"strings"

	"tableau/api"
	"tableau/ext"
	"tableau/rat"
)

// limbDigits: so many digits at least stand for each limb below the highest one, as 2^64 is above 10^19.
const limbDigits = 19

// surelyLong: do the numbers alone have more digits than a text may have bytes? It is asked ahead of writing, which takes very long for numbers of that many limbs.
func surelyLong(m api.Model) bool {
	count := lowerLimbs(m.Offset)
	for _, c := range m.Cols {
		count += lowerLimbs(c.Cost, c.Lo.V, c.Hi.V)
	}
	for _, r := range m.Rows {
		count += lowerLimbs(r.Lo.V, r.Hi.V)
		for _, t := range r.Terms {
			count += lowerLimbs(t.A)
		}
	}
	return count > api.MaxText/limbDigits
}

// lowerLimbs answers how many limbs of the numbers stand below a highest one.
func lowerLimbs(numbers ...api.Rat) int {
	count := 0
	for _, r := range numbers {
		count += max(len(r.Num)-1, 0) + max(len(r.Den)-1, 0)
	}
	return count
}

// written answers the text of m, which is well formed: so the layers below have no error to tell.
func written(m api.Model) string {
	var out strings.Builder
	put := func(words ...string) { out.WriteString(strings.Join(words, blank) + lineEnd) }

	put(minWord, number(m.Offset))
	for _, c := range m.Cols {
		put(colWord, c.Name, number(c.Cost), bound(c.Lo), bound(c.Hi))
	}
	for _, r := range m.Rows {
		words := []string{rowWord, r.Name, bound(r.Lo), bound(r.Hi)}
		for _, t := range r.Terms {
			words = append(words, number(t.A), m.Cols[t.Col].Name)
		}
		put(words...)
	}
	put(endWord)
	return out.String()
}

func number(r api.Rat) string {
	s, _ := rat.Text(r)
	return s
}

func bound(e api.Ext) string {
	s, _ := ext.Text(e)
	return s
}
