package text_test

import (
	"strconv"
	"strings"
	"testing"

	"tableau/api"
	"tableau/model"
	"tableau/sample"
	"tableau/text"
)

// TestModels: the text of each model, and the model again.
func TestModels(t *testing.T) {
	models := sample.Models()
	for seed := range 300 {
		models = append(models, sample.Drawn(seed))
	}
	for i, m := range models {
		s, e := text.Print(m)
		if s != plainText(m) || e != api.OK {
			t.Errorf("P9.1: Print of model %d: %q, %d, want %q", i, short(s), e, short(plainText(m)))
		}
		again, at, e := text.Parse(s)
		if !sameModel(again, m) || at != 0 || e != api.OK {
			t.Errorf("P9.3: Parse(Print) of model %d: %v, %d, %d", i, again, at, e)
		}
		checkTaken(t, s)
	}
}

// TestExample: the chapter's model, made by hand.
func TestExample(t *testing.T) {
	m := api.Model{Offset: sample.Frac(0, 1)}
	m.Cols = []api.Col{{Name: "x", Cost: sample.Frac(1, 2), Lo: sample.At(0), Hi: sample.High()}, sample.Col("y", 0, sample.Low(), sample.High())}
	m.Rows = []api.Row{sample.Row("r", sample.Low(), sample.At(6), sample.Term(0, 1), sample.Term(1, -3))}
	if s, e := text.Print(m); s != first || e != api.OK {
		t.Errorf("P9.1: Print = %q, %d", s, e)
	}
	if got, at, e := text.Parse(first); !sameModel(got, m) || at != 0 || e != api.OK {
		t.Errorf("P9.2: Parse = %v, %d, %d", got, at, e)
	}
}

// TestTaken: texts with the edges that the document names.
func TestTaken(t *testing.T) {
	big := strings.Repeat("123456789", 40)
	for _, s := range []string{
		"min 0\nend\n",
		"min -7/3\nend\n",
		"min " + big + "\nend\n",
		"min 0\ncol x 0 -inf inf\nend\n",
		"min 0\ncol x 0 2 1\nend\n",
		"min 0\ncol x 0 -1/2 -1/2\nend\n",
		"min 0\nrow r 1 2\nend\n",
		"min 0\nrow r -inf inf\nrow s 2 -2\nend\n",
		"min 1/2\ncol a_0 -" + big + "/2 -inf -" + big + "\nrow a_0 1/" + big + " inf 1/" + big + " a_0\nend\n",
		"min 0\ncol abcdefghijklmnop 1 0 1\nrow z_____________09 0 1 -1 abcdefghijklmnop\nend\n",
		"min 0\ncol x 1 0 1\ncol y 1 0 1\nrow x 0 1 -1 y\nrow y 0 1 -1 x\nend\n",
		"min 0\ncol min 1 0 1\ncol col 1 0 1\ncol row 1 0 1\ncol end 1 0 1\ncol inf 1 0 1\nrow end 0 1 1 min 2 col 3 row 4 end 5 inf\nrow row 0 1\nend\n",
		first,
	} {
		checkTaken(t, s)
	}
}

// many: a text with so many columns and rows; each row has a term of the last column.
func many(cols, rows int) string {
	s := "min 0\n"
	for i := range cols {
		s += "col x" + strconv.Itoa(i) + " 1 0 1\n"
	}
	for i := range rows {
		s += "row r" + strconv.Itoa(i) + " 0 1"
		if cols > 0 {
			s += " 2 x" + strconv.Itoa(cols-1)
		}
		s += "\n"
	}
	return s + "end\n"
}

// TestMany: as many columns and rows as may be, and one more of either.
func TestMany(t *testing.T) {
	for _, s := range []string{many(64, 64), many(64, 0), many(0, 64), many(63, 63), many(64, 63), many(63, 64)} {
		checkTaken(t, s)
	}
	for _, s := range []string{many(65, 0), many(65, 64), many(65, 65), many(90, 90)} {
		checkFault(t, s, strings.Index(s, "col x64"), api.ErrLong)
	}
	for _, s := range []string{many(64, 65), many(0, 65), many(1, 90)} {
		checkFault(t, s, strings.Index(s, "row r64"), api.ErrLong)
	}
	m := sample.Full()
	m.Cols = append(m.Cols, sample.Col("y", 1, sample.At(0), sample.At(1)))
	checkUnprinted(t, "65 columns", m, api.ErrLong)
	m = sample.Full()
	m.Rows = append(m.Rows, sample.Row("y", sample.At(0), sample.At(1)))
	checkUnprinted(t, "65 rows", m, api.ErrLong)
}

func checkUnprinted(t *testing.T, name string, m api.Model, want api.Errno) {
	t.Helper()
	if s, e := text.Print(m); s != "" || e != want {
		t.Errorf("P9.1: Print, %s: %q, %d, want %d", name, short(s), e, want)
	}
}

// TestBroken: Print answers Check's error, and no text beside it.
func TestBroken(t *testing.T) {
	for _, b := range sample.Brokens() {
		checkUnprinted(t, b.Name, b.M, b.E)
	}
}

// TestNames: what is a name in a model is one in a text, as a column's, as a row's and in a term.
func TestNames(t *testing.T) {
	names := append(sample.BadNames(), "a", "z9", "a_", "abcdefghijklmnop", "q234567890123456")
	for b := range 256 {
		names = append(names, string([]byte{byte(b)}), string([]byte{'a', byte(b)}), string([]byte{byte(b), 'a'}))
	}
	for _, name := range names {
		if strings.Contains(name, "\n") {
			continue // it makes two lines of one
		}
		col := "min 0\ncol " + name + " 1 0 1\nend\n"
		row := "min 0\ncol xy 1 0 1\nrow " + name + " 0 1\nend\n"
		term := "min 0\ncol xy 1 0 1\nrow r 0 1 2 " + name + "\nend\n"
		m := api.Model{Offset: sample.Frac(0, 1), Cols: []api.Col{sample.Col(name, 1, sample.At(0), sample.At(1))}}
		if model.Check(m) == api.OK {
			checkTaken(t, col)
			checkTaken(t, row)
			checkFault(t, term, lineAt(term, 2), api.ErrName)
		} else {
			checkFault(t, col, lineAt(col, 1), api.ErrText)
			checkFault(t, row, lineAt(row, 2), api.ErrText)
			checkFault(t, term, lineAt(term, 2), api.ErrText)
		}
	}
}
