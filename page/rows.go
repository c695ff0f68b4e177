package page

import (
	"unicode/utf8"

	"redraft/api"
)

// row: a row, and where its runes begin and end among the text's bytes.
type row struct {
	api.Line
	from, to int
}

// empty: a row as it begins, at a place and its byte.
func empty(at, from int) row {
	return row{Line: api.Line{Lo: at, Hi: at}, from: from, to: from}
}

// last: the last of the places that are the row's. The end of a soft row is the beginning of the next one, and is that one's.
func (r row) last() int {
	if r.Hard {
		return r.Hi
	}
	return r.Hi - 1
}

// filler: fills rows with the runes of a text, one behind the other.
type filler struct {
	width int
	full  []row
	row   row // the one that is being filled
	word  row // the row as it was behind its last blank; one that ends no later than row begins, if row has none
}

// rowsOf: the rows of all lines.
func rowsOf(text string, width int) []row {
	f := filler{width: width}
	for _, r := range text {
		if r == '\n' {
			f.endLine()
		} else {
			f.put(r)
		}
	}
	f.endLine()
	return f.full
}

func (f *filler) put(r rune) {
	for !f.fits(r) {
		f.endRow()
	}
	f.row.Cols += Cols(r, f.row.Cols)
	f.row.Hi++
	f.row.to += utf8.RuneLen(r)
	if blank(r) {
		f.word = f.row
	}
}

// fits: a rune that is wider than the page has a row of its own.
func (f *filler) fits(r rune) bool {
	return f.row.Lo == f.row.Hi || f.row.Cols+Cols(r, f.row.Cols) <= f.width
}

// endRow ends a row that is soft. What stands behind its last blank goes to the next row; there is no tab among that, so it fills as many columns there.
func (f *filler) endRow() {
	ended := f.row
	if f.word.Hi > f.row.Lo {
		ended = f.word
	}
	f.full = append(f.full, ended)
	next := empty(ended.Hi, ended.to)
	next.Hi, next.to, next.Cols = f.row.Hi, f.row.to, f.row.Cols-ended.Cols
	f.row = next
}

func (f *filler) endLine() {
	f.row.Hard = true
	f.full = append(f.full, f.row)
	f.row = empty(f.row.Hi+1, f.row.to+1) // a new line is one byte
}
