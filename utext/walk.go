package utext

import "redraft/api"

// reach: how far a walk goes.
type reach int

const (
	byRune reach = iota // one rune
	byEdge              // to the edge of the line
	byLine              // one line
	byWord              // one word
	byText              // to the edge of the text
)

// walk: its reach, and its way: -1 towards the text's beginning, 1 towards its end.
type walk struct {
	reach reach
	way   int
}

// walks: in the order of the numbers by which Step is asked, 1 being the first.
var walks = [...]walk{
	{byRune, -1}, // left
	{byRune, 1},  // right
	{byEdge, -1}, // home
	{byEdge, 1},  // end
	{byLine, -1}, // up
	{byLine, 1},  // down
	{byWord, -1}, // word left
	{byWord, 1},  // word right
	{byText, -1}, // top
	{byText, 1},  // bottom
}

// Where: the line and column (from 0) of a rune place.
func Where(s string, at int) (line, col int, e api.Errno) {
	if _, e := Place(s, at); e != api.OK {
		return 0, 0, e
	}
	for _, r := range s {
		if at == 0 {
			break
		}
		at--
		col++
		if r == '\n' {
			line++
			col = 0
		}
	}
	return line, col, api.OK
}

// Find: the rune place of a line and column.
func Find(s string, line, col int) (int, api.Errno) {
	if _, _, e := Check(s); e != api.OK {
		return 0, e
	}
	if line < 0 || col < 0 {
		return 0, api.ErrPlace
	}
	at := 0
	for _, r := range s {
		if line == 0 && (col == 0 || r == '\n') {
			return at, api.OK
		}
		switch {
		case line == 0:
			col--
		case r == '\n':
			line--
		}
		at++
	}
	if line > 0 {
		return 0, api.ErrPlace
	}
	return at, api.OK
}

// Step: where a caret at that rune place goes by a walk (chapter 01 lists the walks' numbers).
func Step(s string, at int, how int) (int, api.Errno) {
	if _, e := Place(s, at); e != api.OK {
		return 0, e
	}
	if how < 1 || how > len(walks) {
		return 0, api.ErrWalk
	}
	w := walks[how-1]
	if w.reach == byLine {
		return stepLine(s, at, w.way), api.OK
	}
	return stepIn([]rune(s), at, w), api.OK
}

// stepLine goes to the text's edge where Find knows no line above or below.
func stepLine(s string, at, way int) int {
	line, col, _ := Where(s, at)
	to, e := Find(s, line+way, col)
	if e != api.OK {
		return edge([]rune(s), way)
	}
	return to
}

func stepIn(t []rune, at int, w walk) int {
	switch w.reach {
	case byRune:
		return min(max(at+w.way, 0), len(t))
	case byEdge:
		return pass(t, at, w.way, inLine)
	case byWord:
		return pass(t, pass(t, at, w.way, noWordRune), w.way, wordRune)
	}
	return edge(t, w.way)
}

func edge(t []rune, way int) int {
	if way < 0 {
		return 0
	}
	return len(t)
}

// pass: where a caret stops that goes on from at, that way, as long as it may go over the next rune.
func pass(t []rune, at, way int, over func(rune) bool) int {
	for at != edge(t, way) && over(t[next(at, way)]) {
		at += way
	}
	return at
}

// next: the number of the rune that a caret at at meets first: leftwards that is the one ahead of it.
func next(at, way int) int {
	if way < 0 {
		return at - 1
	}
	return at
}

func inLine(r rune) bool { return r != '\n' }

func wordRune(r rune) bool {
	switch {
	case 'a' <= r && r <= 'z', 'A' <= r && r <= 'Z', '0' <= r && r <= '9':
		return true
	}
	return r == '_' || r >= 0xc0
}

func noWordRune(r rune) bool { return !wordRune(r) }
