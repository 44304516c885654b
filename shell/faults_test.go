package shell_test

import (
	"strconv"
	"strings"
	"testing"

	"tableau/api"
	"tableau/shell"
)

// TestLong: a line of MaxLine bytes, and of one more, whatever stands in it.
func TestLong(t *testing.T) {
	for _, line := range []string{"min 3", "col w 1 0 4", "row s 0 1 1 x", "solve", "print", "clear", "what", "min x", "dropcol w", "value w", "report 1", "", "script single"} {
		s := solved(t)
		for _, length := range []int{api.MaxLine + 1, api.MaxLine + 2, 5000, 1 << 21} {
			keeps(t, "P30.3", s, line+strings.Repeat(" ", length-len(line)), no(api.ErrLong, 0))
			keeps(t, "P30.3", s, strings.Repeat(" ", length-len(line))+line, no(api.ErrLong, 0))
		}
		want := s.Line(strings.Repeat("x", api.MaxLine+1) + line)
		if want != no(api.ErrLong, 0) {
			t.Errorf("P30.3: %v", want)
		}
		one, other := solved(t), solved(t)
		want = one.Line(line)
		if e := want.E; e == api.ErrName && line == "what" {
			want.At = api.MaxLine - len(line)
		} else if e != api.OK {
			want.At += api.MaxLine - len(line)
		}
		ask(t, "P30.3", other, strings.Repeat(" ", api.MaxLine-len(line))+line, want)
		if state(one) != state(other) {
			t.Errorf("P30.3: %q with blanks in front does something else", line)
		}
	}
	number := strings.Repeat("7", api.MaxLine-len("min "))
	s := begun(t, "min "+number)
	ask(t, "P30.3", s, "print", ok("min "+number+"\nend\n"))
	keeps(t, "P30.3", s, "min "+number+"7", no(api.ErrLong, 0))
}

// TestNoCommand: the first word is none, whatever stands behind it.
func TestNoCommand(t *testing.T) {
	s := solved(t)
	for _, word := range []string{"what", "Min", "MIN", "mi", "minn", "min3", "cols", "ro", "rows", "end", "x", "r", "3", "-", "drop", "dropcols", "set", "help", "single", "quit", "value,", "\x00", "é", strings.Repeat("a", 3000)} {
		for _, behind := range []string{"", " 3", " x 1", " z z z", "   "} {
			for _, front := range []string{"", " ", "     "} {
				keeps(t, "P30.3", s, front+word+behind, no(api.ErrName, len(front)))
			}
		}
	}
}

// rights: a line of each command without a fault, of a shell that solved answers.
func rights() []string {
	return []string{"min 3", "col w -1 0 4", "row s -inf 6", "row s 0 1 1 x", "row s 0 1 2 y 1 x 3 z", "cost x 1", "bounds y 0 1", "range r 0 1", "term r x 7", "dropcol x", "droprow r", "script", "script single fixed", "sweep", "auto 3", "solve", "value x", "report", "print", "clear"}
}

// open: may one more word, or two, stand behind the line?
func open(line string) bool {
	return strings.HasPrefix(line, "row ") || strings.HasPrefix(line, "script")
}

// TestTooMany: the first word too many is told, whatever it is, and whatever stands behind it.
func TestTooMany(t *testing.T) {
	for _, line := range rights() {
		if open(line) {
			continue
		}
		s := solved(t)
		for _, word := range []string{"3", "x", "r", "w", "z", "inf", "single", "what", "\t", "1/2"} {
			keeps(t, "P30.3", s, line+" "+word, no(api.ErrText, len(line)+1))
			keeps(t, "P30.3", s, line+"   "+word+" 2/4 q  ", no(api.ErrText, len(line)+3))
		}
	}
}

// TestTooFew: the line's length is told, blanks at its end too.
func TestTooFew(t *testing.T) {
	for _, line := range rights() {
		words := strings.Fields(line)
		for count := 1; count < len(words); count++ {
			short := strings.Join(words[:count], " ")
			s := solved(t)
			if words[0] == "script" || words[0] == "row" && count >= 4 && count%2 == 0 {
				if r := s.Line(short); r.E != api.OK {
					t.Errorf("P30.2: %q: %v", short, r)
				}
				continue
			}
			for _, behind := range []string{"", " ", "    "} {
				keeps(t, "P30.3", s, short+behind, no(api.ErrText, len(short+behind)))
				keeps(t, "P30.3", s, "  "+short+behind, no(api.ErrText, 2+len(short+behind)))
			}
		}
	}
}

// TestFromTheLeft: of several words that are at fault the first one, and a word ahead of one that lacks or is too many.
func TestFromTheLeft(t *testing.T) {
	s := solved(t)
	for _, k := range []struct {
		line string
		at   int
	}{
		{"col W 2/4 1 x", 4}, {"col w 2/4 1 x", 6}, {"col w 1 0/ x", 8}, {"col w 1 0 x", 10}, {"col W", 4}, {"col w x", 6}, {"col w 1 x", 8}, {"col W 1 2 3 4", 4}, {"col w 1 2 3 4", 12}, {"col w 1 2 q 4", 10},
		{"row S x 1 1 z", 4}, {"row s x 1 1 z", 6}, {"row s 0 x 1 z", 8}, {"row s 0 1 z 1", 10}, {"row s 0 1 1 Z", 12}, {"row s 0 1 1 x x", 14}, {"row s 0 1 1 x 1", 15}, {"row s 0 1 1 x 1 1", 16}, {"row s 0 1 1 x 2/4 q", 14}, {"row s 0 1 x", 10}, {"row s 0 1 1 z 1", 15}, {"row s 0 1 1 x 2 x 3", 19},
		{"cost X 1", 5}, {"cost q x", 7}, {"cost q", 6}, {"cost", 4}, {"cost q 1 1", 9}, {"cost q x 1", 7}, {"bounds q 1", 10}, {"bounds q x", 9}, {"bounds q 1 2 3", 13}, {"range q 0", 9}, {"range q 0 x", 10}, {"range x 0 1 1", 12},
		{"term q q", 8}, {"term q q x", 9}, {"term Q q 1", 5}, {"term q Q 1", 7}, {"term q q 1 1", 11}, {"dropcol", 7}, {"dropcol q q", 10}, {"droprow Q q", 8}, {"min", 3}, {"min 1 x", 6}, {"min x 1", 4},
		{"script single Fixed what", 14}, {"script what", 7}, {"script single 1", 14}, {"auto", 4}, {"auto x", 5}, {"auto 65 1", 8}, {"auto 100000", 5}, {"value", 5}, {"value Q", 6}, {"value q q", 8}, {"sweep 1", 6}, {"solve solve", 6}, {"report x", 7}, {"print print", 6}, {"clear all", 6},
		{"script" + strings.Repeat(" twin", 64) + " what", 6 + 5*64 + 1}, {"script" + strings.Repeat(" twin", 70) + " what", 6 + 5*70 + 1},
	} {
		keeps(t, "P30.3", s, k.line, no(api.ErrText, k.at))
		keeps(t, "P30.3", s, "   "+k.line, no(api.ErrText, k.at+3))
	}
}

// TestNames: the first name that stands for nothing, or for a column that stood in the line already; ahead of all other errors but those of form.
func TestNames(t *testing.T) {
	s := solved(t)
	for _, k := range []struct {
		line string
		want shell.Reply
	}{
		{"row s 0 1 1 q", no(api.ErrName, 12)}, {"row s 0 1 1 x 1 q 1 p", no(api.ErrName, 16)}, {"row s 0 1 1 q 1 x 1 x", no(api.ErrName, 12)}, {"row s 0 1 1 x 1 x 1 q", no(api.ErrExists, 16)}, {"row s 0 1 1 x 1 q 1 x", no(api.ErrName, 16)},
		{"row s 0 1 1 x 1 y 2 z 3 y", no(api.ErrExists, 24)}, {"row s 0 1 1 x  1  x", no(api.ErrExists, 18)}, {"row s 0 1 1 q 1 q", no(api.ErrName, 12)}, {"row s 0 1 0 x 0 x", no(api.ErrExists, 16)}, {"row s 0 1 0 q", no(api.ErrName, 12)},
		{"row r 0 1 1 q", no(api.ErrName, 12)}, {"row r 0 1 1 x 1 x", no(api.ErrExists, 16)}, {"row r inf 1 1 q", no(api.ErrName, 14)}, {"row s inf -inf 1 y 1 y", no(api.ErrExists, 21)}, {"row s 0 1 1 s", no(api.ErrName, 12)}, {"row s 0 1 1 r", no(api.ErrName, 12)},
		{"cost q 1", no(api.ErrName, 5)}, {"cost r 1", no(api.ErrName, 5)}, {"bounds q inf inf", no(api.ErrName, 7)}, {"range x 0 1", no(api.ErrName, 6)}, {"range q inf 1", no(api.ErrName, 6)}, {"term q p 1", no(api.ErrName, 5)}, {"term x r 1", no(api.ErrName, 5)}, {"term r r 1", no(api.ErrName, 7)}, {"term r q 0", no(api.ErrName, 7)},
		{"dropcol q", no(api.ErrName, 8)}, {"dropcol r", no(api.ErrName, 8)}, {"droprow x", no(api.ErrName, 8)}, {"value q", no(api.ErrName, 6)}, {"value r", no(api.ErrName, 6)},
	} {
		keeps(t, "P30.3", s, k.line, k.want)
		spaced := k.want
		spaced.At += 2
		keeps(t, "P30.3", s, "  "+k.line+"  ", spaced)
	}
	none := begun(t, first()...)
	keeps(t, "P30.3", none, "value q", no(api.ErrName, 6))
	keeps(t, "P30.3", none, "value x", no(api.ErrNone, 0))
	keeps(t, "P30.3", none, "value", no(api.ErrText, 5))
	keeps(t, "P30.3", none, "report", no(api.ErrNone, 0))
	keeps(t, "P30.3", none, "report r", no(api.ErrText, 7))
	keeps(t, "P30.3", shell.New(), "value x", no(api.ErrName, 6))
}

// TestLayers: the layers' errors, at the place 0.
func TestLayers(t *testing.T) {
	s := solved(t)
	for _, k := range []struct {
		line string
		e    api.Errno
	}{
		{"col x 1 0 4", api.ErrExists}, {"col z 1 inf 4", api.ErrForm}, {"col w 1 inf 4", api.ErrForm}, {"col w 1 0 -inf", api.ErrForm}, {"col w 1 inf -inf", api.ErrForm}, {"row r 0 1", api.ErrExists}, {"row r 0 1 1 x 2 y", api.ErrExists},
		{"row s inf inf", api.ErrForm}, {"row s -inf -inf 1 x", api.ErrForm}, {"row s 0 1 0 x", api.ErrForm}, {"row s 0 1 1 y 0 x", api.ErrForm}, {"row r 0 1 0 x", api.ErrForm},
		{"bounds x inf inf", api.ErrForm}, {"bounds x -inf -inf", api.ErrForm}, {"range r inf 4", api.ErrForm}, {"range r 3 -inf", api.ErrForm},
		{"auto 65", api.ErrArg}, {"auto 9999", api.ErrArg}, {"script" + strings.Repeat(" single", 65), api.ErrLong}, {"script" + strings.Repeat(" twin", 790), api.ErrLong},
	} {
		keeps(t, "P30.3", s, k.line, no(k.e, 0))
		keeps(t, "P30.3", s, "  "+k.line+" ", no(k.e, 0))
	}
	infeasible := begun(t, "col x 1 2 1", "solve")
	keeps(t, "P30.3", infeasible, "value x", no(api.ErrNone, 0))
	keeps(t, "P30.3", infeasible, "  value  x", no(api.ErrNone, 0))
}

// TestFull: as many columns and rows as may be, and one more of each.
func TestFull(t *testing.T) {
	s := shell.New()
	for i := range api.MaxCols {
		ask(t, "P30.2", s, "col x"+strconv.Itoa(i)+" 1 0 1", ok(strconv.Itoa(i+1)))
	}
	for i := range api.MaxRows {
		ask(t, "P30.2", s, "row r"+strconv.Itoa(i)+" 0 1 1 x"+strconv.Itoa(63-i), ok(strconv.Itoa(i+1)))
	}
	ask(t, "P30.2", s, "solve", ok("optimal 0"))
	for _, k := range []said{
		{"col y 1 0 1", no(api.ErrLong, 0)}, {"col x0 1 0 1", no(api.ErrLong, 0)}, {"col y 1 inf 1", no(api.ErrLong, 0)}, {"col y 1 0", no(api.ErrText, 9)}, {"row s 0 1", no(api.ErrLong, 0)}, {"row r0 0 1 1 x0", no(api.ErrLong, 0)}, {"row s 0 1 1 y", no(api.ErrName, 12)}, {"row s 0 1 0 x0", no(api.ErrForm, 0)},
	} {
		keeps(t, "P30.3", s, k.line, k.want)
	}
	line, want := "row r64 0 1", "row r64 0 1"
	for i := range api.MaxCols {
		line += " " + strconv.Itoa(64-i) + " x" + strconv.Itoa(63-i)
		want += " " + strconv.Itoa(i+1) + " x" + strconv.Itoa(i)
	}
	talk(t, "P30.2", s, []said{{"droprow r5", ok("63")}, {line, ok("64")}, {"dropcol x9", ok("63")}, {"col last 0 0 1", ok("64")}})
	if !strings.Contains(s.Line("print").Text, "\n"+strings.Replace(want, " 10 x9", "", 1)+"\n") {
		t.Errorf("P30.2: of a row of all columns: %s", s.Line("print").Text)
	}
}

// TestLongPrint: a model whose text would have more than MaxText bytes has none; all else of it is told.
func TestLongPrint(t *testing.T) {
	s := shell.New()
	number := strings.Repeat("7", 3900)
	for i := range api.MaxCols {
		name := "x" + strconv.Itoa(i)
		for _, line := range []string{"col " + name + " 1 0 1", "bounds " + name + " -" + number + " 1", "cost " + name + " " + number} {
			if r := s.Line(line); r.E != api.OK {
				t.Fatalf("%.40q: %v", line, r)
			}
		}
	}
	if r := s.Line("print"); r.E != api.OK || len(r.Text) > api.MaxText {
		t.Fatalf("P30.2: print: %d at %d", r.E, r.At)
	}
	for i := range 10 {
		ask(t, "P30.2", s, "row r"+strconv.Itoa(i)+" 0 0", ok(strconv.Itoa(i+1)))
		for j := range 16 {
			ask(t, "P30.2", s, "term r"+strconv.Itoa(i)+" x"+strconv.Itoa(j)+" "+number, ok(""))
		}
	}
	for range 2 {
		ask(t, "P30.3", s, "print", no(api.ErrLong, 0))
	}
	talk(t, "P30.2", s, []said{{"sweep", ok("went 64 10")}, {"droprow r9", ok("9")}, {"dropcol x63", ok("63")}, {"report", no(api.ErrNone, 0)}})
}
