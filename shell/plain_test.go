package shell_test

import (
	"math/big"
	"regexp"
	"slices"
	"strconv"
	"strings"

	"tableau/api"
	"tableau/driver"
	"tableau/edit"
	"tableau/ext"
	"tableau/model"
	"tableau/presolve"
	"tableau/rat"
	"tableau/shell"
	"tableau/text"
)

// A plain shell goes by patterns: what must stand behind a command is told in letters, and the words are judged by the library's own means.
type plain struct {
	m      api.Model
	script []int
	a      *api.Answer
}

func newPlain() *plain { return &plain{m: api.Model{Offset: rat.Of(0)}} }

var (
	plainWord   = regexp.MustCompile(`[^ ]+`)
	plainName   = regexp.MustCompile(`\A[a-z][a-z0-9_]{0,15}\z`)
	plainNumber = regexp.MustCompile(`\A-?[0-9]+(?:/[0-9]+)?\z`)
	plainCount  = regexp.MustCompile(`\A[0-9]{1,4}\z`)
	plainPass   = regexp.MustCompile(`\A(?:single|fixed|dominate|pairup|subst|twin|tighten)\z`)
)

// plainForms: N is a new name, c a column's, r a row's, n a number, b a bound, p a pass, k a count.
var plainForms = map[string]string{
	"min": "n", "col": "Nnbb", "row": "Nbb", "cost": "cn", "bounds": "cbb", "range": "rbb", "term": "rcn", "dropcol": "c", "droprow": "r",
	"script": "", "sweep": "", "auto": "k", "solve": "", "value": "c", "report": "", "print": "", "clear": "",
}

// plainIs: is the word what the letter says?
func plainIs(letter byte, word string) bool {
	switch letter {
	case 'N', 'c', 'r':
		return plainName.MatchString(word)
	case 'p':
		return plainPass.MatchString(word)
	case 'k':
		return plainCount.MatchString(word)
	case 'b':
		if word == "inf" || word == "-inf" {
			return true
		}
	}
	n, is := new(big.Rat).SetString(word)
	return is && plainNumber.MatchString(word) && n.RatString() == word
}

// formOf: the letters for so many words; for fewer or more than may stand there, others.
func formOf(command string, count int) string {
	form := plainForms[command]
	switch command {
	case "script":
		return strings.Repeat("p", count)
	case "row":
		for len(form) < count {
			form += "nc"
		}
	}
	return form
}

func (p *plain) line(s string) shell.Reply {
	places := plainWord.FindAllStringIndex(s, -1)
	switch {
	case len(s) > api.MaxLine:
		return shell.Reply{E: api.ErrLong}
	case len(places) == 0:
		return shell.Reply{}
	}
	var words []string
	for _, at := range places {
		words = append(words, s[at[0]:at[1]])
	}
	if _, is := plainForms[words[0]]; !is {
		return shell.Reply{At: places[0][0], E: api.ErrName}
	}
	form := formOf(words[0], len(words)-1)
	for i, word := range words[1:] {
		if i >= len(form) || !plainIs(form[i], word) {
			return shell.Reply{At: places[i+1][0], E: api.ErrText}
		}
	}
	if len(words)-1 < len(form) {
		return shell.Reply{At: len(s), E: api.ErrText}
	}
	for i := range form {
		if e := p.nameError(form[i], words[1:i+1], form, words[i+1]); e != api.OK {
			return shell.Reply{At: places[i+1][0], E: e}
		}
	}
	out, e := p.do(words)
	if e != api.OK {
		return shell.Reply{E: e}
	}
	return shell.Reply{Text: out}
}

// nameError: of a word, ahead of which these stand.
func (p *plain) nameError(letter byte, ahead []string, form, word string) api.Errno {
	_, noCol := model.Col(p.m, word)
	_, noRow := model.Row(p.m, word)
	if letter == 'c' && noCol != api.OK || letter == 'r' && noRow != api.OK {
		return api.ErrName
	}
	for i, other := range ahead {
		if letter == 'c' && form[i] == 'c' && other == word {
			return api.ErrExists
		}
	}
	return api.OK
}

// do: the words are right.
func (p *plain) do(words []string) (string, api.Errno) {
	col := func(i int) int { j, _ := model.Col(p.m, words[i]); return j }
	row := func(i int) int { j, _ := model.Row(p.m, words[i]); return j }
	number := func(i int) api.Rat { r, _ := rat.Read(words[i]); return r }
	bound := func(i int) api.Ext { x, _ := ext.Read(words[i]); return x }
	m, e, count := p.m, api.OK, ""
	switch words[0] {
	case "min":
		m.Offset = number(1)
	case "col":
		m, e = edit.AddCol(m, api.Col{Name: words[1], Cost: number(2), Lo: bound(3), Hi: bound(4)})
		count = "col"
	case "row":
		r := api.Row{Name: words[1], Lo: bound(2), Hi: bound(3)}
		for j := range m.Cols {
			for i := 4; i < len(words); i += 2 {
				if col(i+1) == j {
					r.Terms = append(r.Terms, api.Term{Col: j, A: number(i)})
				}
			}
		}
		m, e = edit.AddRow(m, r)
		count = "row"
	case "cost":
		m, e = edit.SetCost(m, col(1), number(2))
	case "bounds":
		m, e = edit.SetCol(m, col(1), bound(2), bound(3))
	case "range":
		m, e = edit.SetRow(m, row(1), bound(2), bound(3))
	case "term":
		m, e = edit.SetTerm(m, row(1), col(2), number(3))
	case "dropcol":
		m, e = edit.DropCol(m, col(1))
		count = "col"
	case "droprow":
		m, e = edit.DropRow(m, row(1))
		count = "row"
	case "clear":
		*p = *newPlain()
		return "", api.OK
	default:
		return p.tell(words)
	}
	if e != api.OK {
		return "", e
	}
	p.m, p.a = m, nil
	return map[string]string{"": "", "col": strconv.Itoa(len(m.Cols)), "row": strconv.Itoa(len(m.Rows))}[count], api.OK
}

// tell: what leaves the model as it is.
func (p *plain) tell(words []string) (string, api.Errno) {
	names := []string{"single", "fixed", "dominate", "pairup", "subst", "twin", "tighten"}
	switch words[0] {
	case "script":
		if len(words) > 65 {
			return "", api.ErrLong
		}
		p.script = nil
		for _, word := range words[1:] {
			p.script = append(p.script, slices.Index(names, word)+1)
		}
		return strconv.Itoa(len(p.script)), api.OK
	case "sweep":
		r, e := presolve.Run(p.m, p.script)
		return sweepText(r), e
	case "auto":
		limit, _ := strconv.Atoi(words[1])
		_, codes, e := presolve.Auto(p.m, limit)
		if e != api.OK {
			return "", e
		}
		p.script = codes
		var out []string
		for _, code := range codes {
			out = append(out, names[code-1])
		}
		return strings.Join(out, " "), api.OK
	case "print":
		return text.Print(p.m)
	case "solve":
		a, e := driver.Solve(p.m, p.script)
		p.a = &a
		report, _ := driver.Report(p.m, a)
		head, _, _ := strings.Cut(report, "\n")
		return head, e
	case "report":
		if p.a == nil {
			return "", api.ErrNone
		}
		return driver.Report(p.m, *p.a)
	}
	j, _ := model.Col(p.m, words[1])
	switch {
	case p.a != nil && p.a.Status == api.Optimal:
		return rat.Text(p.a.Point.X[j])
	case p.a != nil && p.a.Status == api.Unbounded:
		return rat.Text(p.a.Ray.X[j])
	}
	return "", api.ErrNone
}
