package text

import (
	"strings"

	"tableau/api"
	"tableau/ext"
	"tableau/model"
	"tableau/rat"
)

// A reader goes through a text line by line, and gives up at the first one that is at fault.
type reader struct {
	text       string
	line, next int // where the line that is read begins, and the one behind it
	m          api.Model
	cols, rows map[string]int // the places of the names that were read
}

// A fault is what a reader gives up with: the place of the line's first byte, and what is wrong with the line.
type fault struct {
	at int
	e  api.Errno
}

// read answers what Parse does, of a text that is not too long.
func read(s string) (m api.Model, at int, e api.Errno) {
	defer func() {
		given := recover()
		if given == nil {
			return
		}
		f, ok := given.(fault)
		if !ok {
			// No line brings this about: it must not pass for an answer.
			panic(given)
		}
		m, at, e = api.Model{}, f.at, f.e
	}()
	r := &reader{text: s, cols: map[string]int{}, rows: map[string]int{}}
	r.readAll()
	return r.m, 0, api.OK
}

func (r *reader) readAll() {
	r.readMin(r.words())
	words := r.words()
	for words[0] == colWord {
		r.readCol(words)
		words = r.words()
	}
	for words[0] == rowWord {
		r.readRow(words)
		words = r.words()
	}
	r.must(len(words) == 1 && words[0] == endWord, api.ErrText)
	r.line = r.next
	r.must(r.line == len(r.text), api.ErrText)
}

// words goes on to the next line, and answers what stands between its blanks. Two blanks side by side, or one at either end, make a word without bytes, which fits nowhere.
func (r *reader) words() []string {
	r.line = r.next
	line, _, ended := strings.Cut(r.text[r.line:], lineEnd)
	r.must(ended, api.ErrText)
	r.next = r.line + len(line) + len(lineEnd)
	return strings.Split(line, blank)
}

// must gives up at this line with the error, unless ok.
func (r *reader) must(ok bool, e api.Errno) {
	if !ok {
		panic(fault{at: r.line, e: e})
	}
}

func (r *reader) readMin(words []string) {
	r.must(len(words) == 2 && words[0] == minWord, api.ErrText)
	r.m.Offset = r.number(words[1])
}

// readCol, like readRow, asks the form of the whole line ahead of the rest, whatever the errors' numbers.
func (r *reader) readCol(words []string) {
	r.must(len(words) == 5, api.ErrText)
	c := api.Col{Name: r.name(words[1]), Cost: r.number(words[2])}
	c.Lo, c.Hi = r.bounds(words[3], words[4])
	r.must(len(r.m.Cols) < api.MaxCols, api.ErrLong)
	r.must(isNew(r.cols, c.Name), api.ErrExists)
	r.cols[c.Name] = len(r.m.Cols)
	r.m.Cols = append(r.m.Cols, c)
}

func (r *reader) readRow(words []string) {
	r.must(len(words) >= 4, api.ErrText)
	row := api.Row{Name: r.name(words[1])}
	row.Lo, row.Hi = r.bounds(words[2], words[3])
	row.Terms = r.terms(words[4:])
	r.must(len(r.m.Rows) < api.MaxRows, api.ErrLong)
	r.must(allKnown(row.Terms), api.ErrName)
	r.must(isNew(r.rows, row.Name), api.ErrExists)
	r.must(rise(row.Terms), api.ErrText)
	r.rows[row.Name] = len(r.m.Rows)
	r.m.Rows = append(r.m.Rows, row)
}

func (r *reader) number(word string) api.Rat {
	n, e := rat.Read(word)
	r.must(e == api.OK, api.ErrText)
	return n
}

func (r *reader) bounds(low, high string) (lo, hi api.Ext) {
	lo, e := ext.Read(low)
	r.must(e == api.OK && lo.Inf < 1, api.ErrText)
	hi, e = ext.Read(high)
	r.must(e == api.OK && hi.Inf > -1, api.ErrText)
	return lo, hi
}

// name answers a copy: a piece of the text would keep all of it.
func (r *reader) name(word string) string {
	r.must(model.IsName(word), api.ErrText)
	return strings.Clone(word)
}

// nowhere is the column of a term whose name stands for none.
const nowhere = -1

// terms answers one for each two words.
func (r *reader) terms(words []string) []api.Term {
	r.must(len(words)%2 == 0, api.ErrText)
	var out []api.Term
	for i := 0; i < len(words); i += 2 {
		a, name := r.number(words[i]), words[i+1]
		r.must(len(a.Num) > 0 && model.IsName(name), api.ErrText)
		col, known := r.cols[name]
		if !known {
			col = nowhere
		}
		out = append(out, api.Term{Col: col, A: a})
	}
	return out
}

func isNew(places map[string]int, name string) bool {
	_, there := places[name]
	return !there
}

func allKnown(terms []api.Term) bool {
	for _, t := range terms {
		if t.Col == nowhere {
			return false
		}
	}
	return true
}

// rise: do the columns rise strictly?
func rise(terms []api.Term) bool {
	for i := range terms {
		if i > 0 && terms[i-1].Col >= terms[i].Col {
			return false
		}
	}
	return true
}
