package text_test

import (
	"strings"
	"testing"

	"tableau/api"
)

// A change of the chapter's example, and what has to be told.
type change struct {
	old, new string
	at       int
	e        api.Errno
}

// The places of the example's lines.
const (
	minAt, xAt, yAt, rowAt, endAt, length = 0, 6, 22, 39, 61, 65
)

func checkChanges(t *testing.T, changes []change) {
	t.Helper()
	for _, c := range changes {
		s := strings.Replace(first, c.old, c.new, 1)
		if !strings.Contains(first, c.old) || s == first {
			t.Fatalf("%q for %q changes nothing", c.new, c.old)
		}
		checkFault(t, s, c.at, c.e)
	}
}

func TestPlacesOfExample(t *testing.T) {
	for number, at := range []int{minAt, xAt, yAt, rowAt, endAt, length} {
		if lineAt(first, number) != at {
			t.Errorf("the line %d begins at %d, not at %d", number, lineAt(first, number), at)
		}
	}
}

// TestLines: lines that lack, stand twice, in another order, are cut short or have more words than they may.
func TestLines(t *testing.T) {
	checkChanges(t, []change{
		{"min 0\n", "", 0, api.ErrText}, {"end\n", "", endAt, api.ErrText}, {"end\n", "end", endAt, api.ErrText},
		{"col x 1/2 0 inf\n", "", rowAt - 16, api.ErrName}, {"col y 0 -inf inf\n", "", yAt, api.ErrName},
		{"min 0\n", "min 0\nmin 0\n", 6, api.ErrText}, {"col x 1/2 0 inf\n", "col x 1/2 0 inf\ncol x 1/2 0 inf\n", yAt, api.ErrExists},
		{"row r -inf 6 1 x -3 y\n", "row r -inf 6 1 x -3 y\nrow r -inf 6 1 x -3 y\n", endAt, api.ErrExists}, {"end\n", "end\nend\n", length, api.ErrText},
		{"min 0\n", "\nmin 0\n", 0, api.ErrText}, {"col x", "\ncol x", xAt, api.ErrText}, {"row", "\nrow", rowAt, api.ErrText}, {"end", "\nend", endAt, api.ErrText}, {"end\n", "end\n\n", length, api.ErrText},
		{"min 0\ncol x 1/2 0 inf\n", "col x 1/2 0 inf\nmin 0\n", 0, api.ErrText}, {"col y 0 -inf inf\nrow r -inf 6 1 x -3 y\n", "row r -inf 6 1 x\ncol y 0 -inf inf\n", yAt + 17, api.ErrText},
		{"row r -inf 6 1 x -3 y\nend\n", "end\nrow r -inf 6 1 x -3 y\n", rowAt + 4, api.ErrText}, {"min 0\n", "min 0\nend\n", 10, api.ErrText}, {"end\n", "col z 0 0 1\nend\n", endAt, api.ErrText},
		{"min 0\n", "min\n", 0, api.ErrText}, {"min 0\n", "min 0 0\n", 0, api.ErrText}, {"min 0\n", "0\n", 0, api.ErrText}, {"min 0\n", "min 0;\n", 0, api.ErrText},
		{"col x 1/2 0 inf\n", "col x 1/2 0\n", xAt, api.ErrText}, {"col x 1/2 0 inf\n", "col x 1/2\n", xAt, api.ErrText}, {"col x 1/2 0 inf\n", "col x\n", xAt, api.ErrText}, {"col x 1/2 0 inf\n", "col\n", xAt, api.ErrText},
		{"col x 1/2 0 inf\n", "col x 1/2 0 inf inf\n", xAt, api.ErrText}, {"col x 1/2 0 inf\n", "col x 1/2 0 inf 1 x\n", xAt, api.ErrText},
		{"row r -inf 6 1 x -3 y\n", "row r -inf\n", rowAt, api.ErrText}, {"row r -inf 6 1 x -3 y\n", "row r\n", rowAt, api.ErrText}, {"row r -inf 6 1 x -3 y\n", "row\n", rowAt, api.ErrText},
		{"-3 y\n", "-3\n", rowAt, api.ErrText}, {"-3 y\n", "-3 y 1\n", rowAt, api.ErrText}, {"1 x -3 y", "x 1 y -3", rowAt, api.ErrText},
		{"end\n", "end 0\n", endAt, api.ErrText}, {"end\n", "ended\n", endAt, api.ErrText}, {"end\n", "en\n", endAt, api.ErrText}, {"end\n", "end\nx", length, api.ErrText}, {"end\n", "end\n ", length, api.ErrText}, {"end\n", "end\n\x00", length, api.ErrText},
	})
	checkTaken(t, strings.Replace(first, "row r -inf 6 1 x -3 y\n", "", 1))
	checkTaken(t, strings.Replace(first, " 1 x -3 y", "", 1))
	for _, s := range []string{"", "m", "min 0", "min 0 \nend\n", "end\n", "\n", " ", "\x00"} {
		checkFault(t, s, 0, api.ErrText)
	}
	checkFault(t, "min 0\n", 6, api.ErrText)
}

// TestWords: blanks that are too many or none, other bytes for them, and capitals.
func TestWords(t *testing.T) {
	checkChanges(t, []change{
		{"min 0", "min  0", 0, api.ErrText}, {"min 0", " min 0", 0, api.ErrText}, {"min 0", "min 0 ", 0, api.ErrText}, {"min 0", "min0", 0, api.ErrText}, {"min 0", "min\t0", 0, api.ErrText}, {"min 0\n", "min 0\r\n", 0, api.ErrText},
		{"x 1/2", "x  1/2", xAt, api.ErrText}, {"col x", " col x", xAt, api.ErrText}, {"0 inf\n", "0 inf \n", xAt, api.ErrText}, {"col x", "col\u00a0x", xAt, api.ErrText}, {"1/2", "1 /2", xAt, api.ErrText},
		{"r -inf", "r  -inf", rowAt, api.ErrText}, {"row", " row", rowAt, api.ErrText}, {"-3 y\n", "-3 y \n", rowAt, api.ErrText}, {"6 1", "6  1", rowAt, api.ErrText}, {"-3 y", "- 3 y", rowAt, api.ErrText},
		{"end", " end", endAt, api.ErrText}, {"end", "end ", endAt, api.ErrText},
		{"min", "Min", 0, api.ErrText}, {"min", "max", 0, api.ErrText}, {"min", "MIN", 0, api.ErrText}, {"col x", "Col x", xAt, api.ErrText}, {"col x", "cols x", xAt, api.ErrText}, {"row r", "Row r", rowAt, api.ErrText}, {"end", "End", endAt, api.ErrText},
		{"0 inf\n", "0 Inf\n", xAt, api.ErrText}, {"0 -inf inf", "0 -INF inf", yAt, api.ErrText}, {"col x", "col X", xAt, api.ErrText}, {"row r", "row R", rowAt, api.ErrText}, {"1 x", "1 X", rowAt, api.ErrText},
	})
}

// TestNumbers: words that are no numbers, no bounds, or not where they may stand.
func TestNumbers(t *testing.T) {
	for _, word := range []string{"2/4", "1/1", "0/1", "1/0", "-0", "00", "01", "+1", "--1", "1.5", "1e3", "0x1", "1_0", "1/-2", "1/", "/2", "1/2/3", "x", "-", "٣", "", "1/02", "-inf/2", "infinity", "+inf", "nan"} {
		checkChanges(t, []change{
			{"min 0", "min " + word, 0, api.ErrText}, {"1/2", word, xAt, api.ErrText}, {"1/2 0 inf", "1/2 " + word + " inf", xAt, api.ErrText}, {"1/2 0 inf", "1/2 0 " + word, xAt, api.ErrText},
			{"-inf 6", word + " 6", rowAt, api.ErrText}, {"-inf 6", "-inf " + word, rowAt, api.ErrText}, {"1 x", word + " x", rowAt, api.ErrText}, {"-3 y", word + " y", rowAt, api.ErrText},
		})
	}
	for _, word := range []string{"inf", "-inf"} {
		checkChanges(t, []change{{"min 0", "min " + word, 0, api.ErrText}, {"1/2", word, xAt, api.ErrText}, {"1 x", word + " x", rowAt, api.ErrText}, {"-3 y", word + " y", rowAt, api.ErrText}})
	}
	checkChanges(t, []change{
		{"1/2 0 inf", "1/2 inf inf", xAt, api.ErrText}, {"1/2 0 inf", "1/2 0 -inf", xAt, api.ErrText}, {"0 -inf inf", "0 inf -inf", yAt, api.ErrText},
		{"-inf 6", "inf 6", rowAt, api.ErrText}, {"-inf 6", "-inf -inf", rowAt, api.ErrText}, {"-inf 6", "inf inf", rowAt, api.ErrText},
		{"1 x", "0 x", rowAt, api.ErrText}, {"-3 y", "0 y", rowAt, api.ErrText},
	})
}

// TestTold: names that stand twice or for no column, and terms whose columns don't rise.
func TestTold(t *testing.T) {
	checkChanges(t, []change{
		{"col y", "col x", yAt, api.ErrExists}, {"end", "row r 0 1\nend", endAt, api.ErrExists}, {"col y", "col z", rowAt, api.ErrName}, {"1 x", "1 z", rowAt, api.ErrName}, {"-3 y", "-3 z", rowAt, api.ErrName}, {"-3 y", "-3 r", rowAt, api.ErrName},
		{"1 x -3 y", "-3 y 1 x", rowAt, api.ErrText}, {"1 x -3 y", "1 x 1 x", rowAt, api.ErrText}, {"1 x -3 y", "1 y 1 y", rowAt, api.ErrText}, {"1 x -3 y", "1 x -3 y 1 x", rowAt, api.ErrText}, {"1 x -3 y", "1 x -3 y -3 y", rowAt, api.ErrText},
	})
}

// TestLeast: several faults of one line: the form goes ahead of all; then the least number.
func TestLeast(t *testing.T) {
	full, long := strings.TrimSuffix(many(64, 64), "end\n"), strings.TrimSuffix(many(64, 0), "end\n")
	for _, c := range []struct {
		line string
		e    api.Errno
	}{
		{"row y 0 1", api.ErrLong}, {"row y 0 1 1 zz", api.ErrLong}, {"row r0 0 1", api.ErrLong}, {"row r0 0 1 1 x1 1 x0", api.ErrLong}, {"row r0 0 1 1 zz 1 x1 1 x0", api.ErrLong},
		{"row y inf 1", api.ErrText}, {"row y 0 1 0 x0", api.ErrText}, {"row Y 0 1", api.ErrText}, {"row y 0 1 1 zz 2/4 x1", api.ErrText}, {"row y 0 1 1", api.ErrText}, {"col y 0 0 1", api.ErrText},
	} {
		checkFault(t, full+c.line+"\nend\n", len(full), c.e)
	}
	checkFault(t, full+"row y 0 1", len(full), api.ErrText)
	for _, c := range []struct {
		line string
		e    api.Errno
	}{
		{"col y 0 0 1", api.ErrLong}, {"col x0 0 0 1", api.ErrLong}, {"col x63 0 0 1", api.ErrLong}, {"col Y 0 0 1", api.ErrText}, {"col x0 2/4 0 1", api.ErrText}, {"col x0 0 inf 1", api.ErrText}, {"col y 0 0 1 ", api.ErrText}, {"col y 0 0", api.ErrText},
	} {
		checkFault(t, long+c.line+"\nend\n", len(long), c.e)
	}
	checkFault(t, long+"col y 0 0 1", len(long), api.ErrText)
	checkChanges(t, []change{
		{"end", "row r 0 1 1 z\nend", endAt, api.ErrName}, {"end", "row r 0 1 1 y 1 z 1 x\nend", endAt, api.ErrName}, {"end", "row s 0 1 1 y 1 x 1 z\nend", endAt, api.ErrName}, {"end", "row r 0 1 1 y 1 x\nend", endAt, api.ErrExists},
		{"end", "row r 0 1 0 y\nend", endAt, api.ErrText}, {"end", "row r 0 1 1 z 0 x\nend", endAt, api.ErrText}, {"end", "row r 0 1 1 z 1\nend", endAt, api.ErrText}, {"end", "row r 0 1 1 z 1 X\nend", endAt, api.ErrText},
		{"col y 0", "col x 2/4", yAt, api.ErrText}, {"col y 0 -inf inf\n", "col x 0 -inf inf 0\n", yAt, api.ErrText},
	})
}

// TestFirst: of several lines that are at fault the first one, whatever its error's number.
func TestFirst(t *testing.T) {
	lines := []struct {
		good, bad string
		e         api.Errno
	}{
		{"min 0\n", "min 2/4\n", api.ErrText}, {"col x 1/2 0 inf\n", "col x 1/2 0\n", api.ErrText}, {"col y 0 -inf inf\n", "col x 0 -inf inf\n", api.ErrExists}, {"row r -inf 6 1 x -3 y\n", "row r -inf 6 1 q\n", api.ErrName}, {"end\n", "end\nend\n", api.ErrText},
	}
	for from := range lines {
		for behind := from + 1; behind < len(lines); behind++ {
			s, at := "", 0
			for i, l := range lines {
				if i == from {
					at = len(s)
				}
				if i == from || i == behind {
					s += l.bad
				} else {
					s += l.good
				}
			}
			checkFault(t, s, at, lines[from].e)
		}
	}
	// The 65th column goes ahead of all behind it, and a fault ahead of it goes first.
	s := strings.Replace(many(65, 65), "col x64 1 0 1\n", "col x64 1 0 1\ncol x64 1\n", 1)
	checkFault(t, s, strings.Index(s, "col x64"), api.ErrLong)
	s = strings.Replace(many(65, 65), "col x63", "col x62", 1)
	checkFault(t, s, lineAt(s, 64), api.ErrExists)
	s = strings.Replace(many(64, 65), "row r63 0 1 2 x63", "row r63 0 1 2 y", 1)
	checkFault(t, s, strings.Index(s, "row r63"), api.ErrName)
}
