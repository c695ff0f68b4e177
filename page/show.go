package page

import (
	"strings"

	"redraft/api"
)

// noCaret: of Show, that there is no caret; of a row, that it stands elsewhere.
const noCaret = -1

// Show: the rows from top on that a page of that height shows, tabs as blanks, a bar at the caret.
func Show(text string, width, height, top, caret int) ([]string, api.Errno) {
	s, e := lay(text, width, height)
	if e != api.OK {
		return nil, e
	}
	if !s.hasRow(top) || caret != noCaret && !s.has(caret) {
		return nil, api.ErrPlace
	}
	var list []string
	for i := top; i < len(s.rows) && len(list) < height; i++ {
		list = append(list, s.drawn(i, caret))
	}
	return list, api.OK
}

// drawn: a row's string.
func (s sheet) drawn(row, caret int) string {
	if caret != noCaret && s.rowOf(caret) != row {
		caret = noCaret
	}
	var b strings.Builder
	r, col := s.rows[row], 0
	at := r.Lo
	for _, c := range s.text[r.from:r.to] {
		if at == caret {
			b.WriteByte('|')
		}
		n := Cols(c, col)
		if c == '\t' {
			b.WriteString(strings.Repeat(" ", n))
		} else {
			b.WriteRune(c)
		}
		col += n
		at++
	}
	if at == caret {
		b.WriteByte('|')
	}
	return strings.TrimRight(b.String(), " ")
}
