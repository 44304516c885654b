package ext

import (
	"tableau/api"
	"tableau/rat"
)

const (
	lowText  = "-inf"
	highText = "inf"
)

// Text: -inf, inf, or the number's text.
func Text(e api.Ext) (string, api.Errno) {
	switch {
	case !allForm(e):
		return "", api.ErrForm
	case e.Inf < 0:
		return lowText, api.OK
	case e.Inf > 0:
		return highText, api.OK
	}
	return rat.Text(e.V)
}

// Read: the bound whose Text is s.
func Read(s string) (api.Ext, api.Errno) {
	switch s {
	case lowText:
		return Low(), api.OK
	case highText:
		return High(), api.OK
	}
	v, e := rat.Read(s)
	if e != api.OK {
		return api.Ext{}, e
	}
	return number(v), api.OK
}
