package vec

import (
	"tableau/api"
	"tableau/rat"
)

// A putter puts a term behind those of a list, which keeps the number's limbs. It wants rising columns; a nought is left out.
type putter func(col int, a api.Rat)

// gather answers the list that fill puts together.
func gather(fill func(put putter)) []api.Term {
	var v []api.Term
	fill(func(col int, a api.Rat) {
		if !isZero(a) {
			v = append(v, api.Term{Col: col, A: a})
		}
	})
	return v
}

// merge puts v + r w, by rising columns, as those of v and w rise.
func merge(put putter, v []api.Term, r api.Rat, w []api.Term) {
	for len(v) > 0 || len(w) > 0 {
		switch {
		case len(w) == 0 || len(v) > 0 && v[0].Col < w[0].Col:
			put(v[0].Col, rat.Copy(v[0].A))
			v = v[1:]
		case len(v) == 0 || w[0].Col < v[0].Col:
			put(w[0].Col, times(r, w[0].A))
			w = w[1:]
		default:
			put(v[0].Col, plus(v[0].A, times(r, w[0].A)))
			v, w = v[1:], w[1:]
		}
	}
}

// isZero wants r in form.
func isZero(r api.Rat) bool { return len(r.Num) == 0 }

func allForm(x []api.Rat) bool {
	for _, r := range x {
		if !rat.Form(r) {
			return false
		}
	}
	return true
}

// allBelow wants v in form: its last column is the highest.
func allBelow(v []api.Term, n int) bool {
	return len(v) == 0 || v[len(v)-1].Col < n
}

// plus wants both in form.
func plus(a, b api.Rat) api.Rat {
	sum, _ := rat.Add(a, b)
	return sum
}

// times wants both in form.
func times(a, b api.Rat) api.Rat {
	product, _ := rat.Mul(a, b)
	return product
}
