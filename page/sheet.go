package page

import (
	"sort"

	"redraft/api"
	"redraft/utext"
)

// sheet: a text that is laid out.
type sheet struct {
	text  string
	runes int
	rows  []row
}

// noHeight: a height that is right, for the calls that are handed none.
const noHeight = 1

// lay: the text on a page of that size, or the first error of those that all calls share.
func lay(text string, width, height int) (sheet, api.Errno) {
	n, _, e := utext.Check(text)
	if e != api.OK {
		return sheet{}, e
	}
	if width < 1 || width > api.MaxCols || height < 1 || height > api.MaxRows {
		return sheet{}, api.ErrCols
	}
	return sheet{text: text, runes: n, rows: rowsOf(text, width)}, api.OK
}

// has: is that a place of the text?
func (s sheet) has(at int) bool { return 0 <= at && at <= s.runes }

// hasRow: is there a row of that number?
func (s sheet) hasRow(row int) bool { return 0 <= row && row < len(s.rows) }

// rowOf: the number of the row in which a place stands: the last one that doesn't begin behind it.
func (s sheet) rowOf(at int) int {
	return sort.Search(len(s.rows), func(i int) bool { return s.rows[i].Lo > at }) - 1
}

// columns: of each of a row's places the column.
func (s sheet) columns(r row) []int {
	col, list := 0, []int{0}
	for _, c := range s.text[r.from:r.to] {
		col += Cols(c, col)
		list = append(list, col)
	}
	return list[:r.last()-r.Lo+1]
}

// column: the column at which a place stands.
func (s sheet) column(at int) int {
	r := s.rows[s.rowOf(at)]
	return s.columns(r)[at-r.Lo]
}

// find: the last of a row's places whose column is at most col. The first one's is 0, so that there is one.
func (s sheet) find(row, col int) int {
	r := s.rows[row]
	cols := s.columns(r)
	beyond := sort.Search(len(cols), func(i int) bool { return cols[i] > col })
	return r.Lo + beyond - 1
}
