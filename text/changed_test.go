package text_test

import (
	"slices"
	"strings"
	"testing"

	"tableau/api"
	"tableau/sample"
	"tableau/text"
)

// bases: texts that are changed.
func bases() []string {
	out := []string{
		"min 0\nend\n", first,
		"min -1/2\ncol a 3 0 1\ncol b -2/3 -inf 5\ncol c 0 1 -1\nrow a 1 2 1 a 2 b -3 c\nrow f -inf inf\nrow b 0 0 7/2 c\nend\n",
	}
	for _, m := range []api.Model{sample.Three(), sample.Drawn(3), sample.Drawn(7)} {
		s, _ := text.Print(m)
		out = append(out, s)
	}
	return out
}

// TestBytes: each byte left out, doubled, and replaced by others, and others put in front of it and behind the last one.
func TestBytes(t *testing.T) {
	p, found := newPlainReader(), map[api.Errno]int{}
	for _, s := range bases() {
		for at := range len(s) + 1 {
			for _, b := range []string{"", " ", "\n", "0", "1", "2", "-", "/", "x", "y", "a", "r", "_", "A", "\x00", "\r", "é", "inf", " 1 x", "1/3", "col ", "end\n"} {
				p.check(t, s[:at]+b+s[at:], found)
				if at < len(s) {
					p.check(t, s[:at]+b+s[at+1:], found)
				}
			}
		}
	}
	checkFound(t, found)
}

// TestCut: each piece of a text from the front, and each to the end.
func TestCut(t *testing.T) {
	p, found := newPlainReader(), map[api.Errno]int{}
	for _, s := range bases() {
		for at := range len(s) {
			p.check(t, s[:at], found)
			if at > 0 {
				p.check(t, s[at:], found)
			}
		}
	}
	if found[api.OK] != 0 {
		t.Errorf("%d pieces of texts are taken for texts", found[api.OK])
	}
}

// TestPieces: each line and each word left out, doubled, put in the place of each other one, and changed with it.
func TestPieces(t *testing.T) {
	p, found := newPlainReader(), map[api.Errno]int{}
	for _, s := range bases() {
		for _, apart := range []string{"\n", " "} {
			pieces := strings.Split(s, apart)
			check := func(pieces []string) { p.check(t, strings.Join(pieces, apart), found) }
			for i, piece := range pieces {
				check(slices.Delete(slices.Clone(pieces), i, i+1))
				check(slices.Insert(slices.Clone(pieces), i, piece))
				for k, other := range pieces {
					put := slices.Clone(pieces)
					put[i] = other
					check(put)
					put[k] = piece
					check(put)
				}
			}
		}
	}
	checkFound(t, found)
}

// TestDrawn: several changes at once.
func TestDrawn(t *testing.T) {
	p, found := newPlainReader(), map[api.Errno]int{}
	state := uint64(5)
	below := func(n int) int {
		state = state*6364136223846793005 + 1442695040888963407
		return int(state>>33) % n
	}
	bytes := " \n0123-/xyzrabc_"
	for _, base := range bases() {
		for range 3000 {
			s := []byte(base)
			for range 1 + below(4) {
				at := below(len(s))
				switch b := bytes[below(len(bytes))]; below(3) {
				case 0:
					s[at] = b
				case 1:
					s = slices.Insert(s, at, b)
				case 2:
					s = slices.Delete(s, at, at+1)
				}
			}
			p.check(t, string(s), found)
		}
	}
	checkFound(t, found)
}

// checkFound: each kind of fault came up, but for lists that are too long.
func checkFound(t *testing.T, found map[api.Errno]int) {
	t.Helper()
	for _, e := range []api.Errno{api.OK, api.ErrName, api.ErrExists, api.ErrText} {
		if found[e] < 10 {
			t.Errorf("%d texts with the error %d are tried", found[e], e)
		}
	}
}
