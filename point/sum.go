package point

import (
	"tableau/api"
	"tableau/ext"
	"tableau/rat"
)

// Numbers: are these just n numbers, all in form? It and Sum are for the layers above, too.
func Numbers(x []api.Rat, n int) api.Errno {
	for _, r := range x {
		if !rat.Form(r) {
			return api.ErrForm
		}
	}
	if len(x) != n {
		return api.ErrUnlike
	}
	return api.OK
}

// Sum: the sum of any number of values, which it wants in form; of none 0.
func Sum(values ...api.Rat) api.Rat {
	sum := rat.Of(0)
	for _, v := range values {
		sum, _ = rat.Add(sum, v)
	}
	return sum
}

// activities wants what check asks for.
func activities(m api.Model, x []api.Rat) []api.Rat {
	var out []api.Rat
	for _, r := range m.Rows {
		var values []api.Rat
		for _, t := range r.Terms {
			values = append(values, times(t.A, x[t.Col]))
		}
		out = append(out, Sum(values...))
	}
	return out
}

// keeps wants all in form. It asks both bounds, as none is to keep crossed ones.
func keeps(v api.Rat, lo, hi api.Ext) bool {
	number := api.Ext{V: v}
	above, _ := ext.Cmp(number, lo)
	below, _ := ext.Cmp(number, hi)
	return above >= 0 && below <= 0
}

// times wants both in form.
func times(a, b api.Rat) api.Rat {
	product, _ := rat.Mul(a, b)
	return product
}
