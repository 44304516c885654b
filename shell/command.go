package shell

import "tableau/api"

// A command has a name; behind it stand the words first, and then those of more, in their turn, any number of times.
type command struct {
	name  string
	first []kind
	more  []kind
	do    func(s *Shell, g given) (string, api.Errno)
}

func commands() []command {
	return []command{
		{name: "min", first: []kind{aNumber}, do: (*Shell).setOffset},
		{name: "col", first: []kind{aNewName, aNumber, aBound, aBound}, do: (*Shell).addCol},
		{name: "row", first: []kind{aNewName, aBound, aBound}, more: []kind{aNumber, aColumn}, do: (*Shell).addRow},
		{name: "cost", first: []kind{aColumn, aNumber}, do: (*Shell).setCost},
		{name: "bounds", first: []kind{aColumn, aBound, aBound}, do: (*Shell).setCol},
		{name: "range", first: []kind{aRow, aBound, aBound}, do: (*Shell).setRow},
		{name: "term", first: []kind{aRow, aColumn, aNumber}, do: (*Shell).setTerm},
		{name: "dropcol", first: []kind{aColumn}, do: (*Shell).dropCol},
		{name: "droprow", first: []kind{aRow}, do: (*Shell).dropRow},
		{name: "script", more: []kind{aPass}, do: (*Shell).setScript},
		{name: "sweep", do: (*Shell).sweep},
		{name: "auto", first: []kind{aCount}, do: (*Shell).auto},
		{name: "solve", do: (*Shell).solve},
		{name: "value", first: []kind{aColumn}, do: (*Shell).value},
		{name: "report", do: (*Shell).report},
		{name: "print", do: (*Shell).print},
		{name: "clear", do: (*Shell).clear},
	}
}

// commandOf: false, if there is none of that name.
func commandOf(name string) (command, bool) {
	for _, c := range commands() {
		if c.name == name {
			return c, true
		}
	}
	return command{}, false
}

// read answers what the words behind the command stand for; or the place of the first one that is not what must stand there, or is one too many; or the line's end, if words lack.
func (c command) read(words []word, end int) (given, int, api.Errno) {
	var g given
	for i, w := range words {
		if k, some := c.kindAt(i); !some || !g.take(k, w) {
			return given{}, w.at, api.ErrText
		}
	}
	if c.lacks(len(words)) {
		return given{}, end, api.ErrText
	}
	return g, 0, api.OK
}

// kindAt answers what the word with this place behind the command must be; false, if none may stand there.
func (c command) kindAt(place int) (kind, bool) {
	behind := place - len(c.first)
	switch {
	case behind < 0:
		return c.first[place], true
	case len(c.more) == 0:
		return 0, false
	}
	return c.more[behind%len(c.more)], true
}

// lacks: are so many words too few?
func (c command) lacks(count int) bool {
	behind := count - len(c.first)
	return behind < 0 || len(c.more) > 0 && behind%len(c.more) > 0
}
