package page_test

import (
	"fmt"
	"slices"
	"testing"

	"redraft/api"
	"redraft/page"
	"redraft/utext"
)

// The chapter told once more, as plainly as can be: rows are sought by trying every end that they could have, places by trying every place.

// narrow and wide: the table's rows, written down as ends of stretches.
var narrow = [][2]rune{{0xa, 0xa}, {0x300, 0x36f}, {0x200b, 0x200d}, {0xfe00, 0xfe0f}}
var wide = [][2]rune{
	{0x1100, 0x115f}, {0x2e80, 0x303e}, {0x3041, 0xa4cf}, {0xac00, 0xd7a3}, {0xf900, 0xfaff},
	{0xfe30, 0xfe6f}, {0xff00, 0xff60}, {0xffe0, 0xffe6}, {0x1f300, 0x1faff}, {0x20000, 0x3fffd},
}

func within(r rune, stretches [][2]rune) bool {
	return slices.ContainsFunc(stretches, func(s [2]rune) bool { return s[0] <= r && r <= s[1] })
}

func wantCols(r rune, at int) int {
	switch {
	case r == 9:
		if at < 0 {
			at = 0
		}
		return [...]int{4, 3, 2, 1}[at%4]
	case within(r, narrow):
		return 0
	case within(r, wide):
		return 2
	}
	return 1
}

// fill: how many columns runes fill that begin at column 0.
func fill(runes []rune) int {
	col := 0
	for _, r := range runes {
		col += wantCols(r, col)
	}
	return col
}

func isBlank(r rune) bool { return r == 0x20 || r == 0x9 }

// model: a text's runes on a page, and their rows.
type model struct {
	runes []rune
	rows  []api.Line
}

func modelOf(text string, width int) model {
	m := model{runes: []rune(text)}
	begin := 0
	for at := range len(m.runes) + 1 {
		if at == len(m.runes) || m.runes[at] == '\n' {
			m.line(begin, at, width)
			begin = at + 1
		}
	}
	return m
}

// line: the rows of the line lo to e-1.
func (m *model) line(lo, e, width int) {
	for {
		hi, hard := m.rowEnd(lo, e, width)
		m.rows = append(m.rows, api.Line{Lo: lo, Hi: hi, Cols: fill(m.runes[lo:hi]), Hard: hard})
		if hard {
			return
		}
		lo = hi
	}
}

func (m *model) rowEnd(lo, e, width int) (hi int, hard bool) {
	k := e
	for fill(m.runes[lo:k]) > width {
		k--
	}
	if k == lo && lo < e {
		k = lo + 1
	}
	if k == e {
		return e, true
	}
	for b := k - 1; b >= lo; b-- {
		if isBlank(m.runes[b]) {
			return b + 1, false
		}
	}
	return k, false
}

// places: all places of a row.
func (m *model) places(row int) []int {
	var list []int
	r := m.rows[row]
	for p := r.Lo; p < r.Hi; p++ {
		list = append(list, p)
	}
	if r.Hard {
		list = append(list, r.Hi)
	}
	return list
}

// spot: the row that has the place, and the column.
func (m *model) spot(at int) (row, col int) {
	for row := range m.rows {
		if slices.Contains(m.places(row), at) {
			return row, fill(m.runes[m.rows[row].Lo:at])
		}
	}
	panic("a place in no row")
}

func (m *model) find(row, col int) int {
	best := -1
	for _, p := range m.places(row) {
		if fill(m.runes[m.rows[row].Lo:p]) <= col {
			best = p
		}
	}
	return best
}

func (m *model) walk(at, want, how int) (to, wants int) {
	row, col := m.spot(at)
	if want >= 0 {
		col = want
	}
	all := m.places(row)
	switch {
	case how == 3:
		return all[0], -1
	case how == 4:
		return all[len(all)-1], -1
	case how == 5 && row == 0:
		return 0, col
	case how == 5:
		return m.find(row-1, col), col
	case how == 6 && row == len(m.rows)-1:
		return len(m.runes), col
	case how == 6:
		return m.find(row+1, col), col
	}
	to, _ = utext.Step(string(m.runes), at, how)
	return to, -1
}

// picture: a row's string, the caret in it or elsewhere.
func (m *model) picture(row, caret int) string {
	var out []rune
	for _, p := range m.places(row) {
		if p == caret {
			out = append(out, '|')
		}
		if p == m.rows[row].Hi {
			continue // the end of a hard row
		}
		if r := m.runes[p]; r != 9 {
			out = append(out, r)
			continue
		}
		for range wantCols(9, fill(m.runes[m.rows[row].Lo:p])) {
			out = append(out, 0x20)
		}
	}
	for len(out) > 0 && out[len(out)-1] == 0x20 {
		out = out[:len(out)-1]
	}
	return string(out)
}

func (m *model) show(height, top, caret int) []string {
	var list []string
	for row := range m.rows {
		if row >= top && row-top < height {
			list = append(list, m.picture(row, caret))
		}
	}
	return list
}

func (m *model) top(height, old, caret int) int {
	r, _ := m.spot(caret)
	if r < old {
		return r
	}
	if r-old >= height {
		return r - height + 1
	}
	return old
}

// agree: all calls answer what the model says, wherever they are asked.
func agree(t *testing.T, text string, width int) {
	t.Helper()
	m := modelOf(text, width)
	agreeLay(t, text, width, m)
	n := len(m.runes)
	for at := range n + 1 {
		row, col := m.spot(at)
		gotRow, gotCol, e := page.Spot(text, width, at)
		same(t, call{"P19.4: Spot", text, []int{width, at}}, []any{gotRow, gotCol, e}, []any{row, col, api.OK})
		agreeWalks(t, text, width, at, m)
	}
	for row := range m.rows {
		for _, col := range append(upTo(m.rows[row].Cols+2), huge) {
			got, e := page.Find(text, width, row, col)
			same(t, call{"P19.5: Find", text, []int{width, row, col}}, []any{got, e}, []any{m.find(row, col), api.OK})
		}
		agreeShow(t, text, width, row, m)
	}
}

func agreeLay(t *testing.T, text string, width int, m model) {
	t.Helper()
	rows, e := page.Lay(text, width)
	if e != api.OK || !slices.Equal(rows, m.rows) {
		t.Fatalf("P19.3: Lay(%q, %d) = %v, %d, want %v", text, width, rows, int(e), m.rows)
	}
}

func agreeWalks(t *testing.T, text string, width, at int, m model) {
	t.Helper()
	for how := 1; how <= 10; how++ {
		for _, want := range []int{least, -1, 0, 1, 2, width - 1, width, width + 1, huge} {
			to, wants := m.walk(at, want, how)
			gotTo, gotWants, e := page.Walk(text, width, at, want, how)
			same(t, call{"P19.6: Walk", text, []int{width, at, want, how}}, []any{gotTo, gotWants, e}, []any{to, wants, api.OK})
		}
	}
}

func agreeShow(t *testing.T, text string, width, row int, m model) {
	t.Helper()
	for _, height := range []int{1, 2, len(m.rows) + 1, api.MaxRows} {
		for caret := -1; caret <= len(m.runes); caret++ {
			list, e := page.Show(text, width, height, row, caret)
			if want := m.show(height, row, caret); e != api.OK || !slices.Equal(list, want) {
				t.Fatalf("P19.7: Show(%q, %d, %d, %d, %d) = %q, %d, want %q", text, width, height, row, caret, list, int(e), want)
			}
			if caret < 0 {
				continue
			}
			for _, old := range []int{row, len(m.rows), huge} {
				top, e := page.Top(text, width, height, old, caret)
				same(t, call{"P19.8: Top", text, []int{width, height, old, caret}}, []any{top, e}, []any{m.top(height, old, caret), api.OK})
			}
		}
	}
}

// call: what was called with which text and numbers.
type call struct {
	name    string
	text    string
	numbers []int
}

func same(t *testing.T, c call, got, want []any) {
	t.Helper()
	if !slices.Equal(got, want) {
		t.Fatalf("%s(%q, %v) = %s, want %s", c.name, c.text, c.numbers, plain(got), plain(want))
	}
}

// plain: the answers, errors by their numbers.
func plain(answers []any) string {
	var out []any
	for _, a := range answers {
		if e, ok := a.(api.Errno); ok {
			a = int(e)
		}
		out = append(out, a)
	}
	return fmt.Sprint(out...)
}

func upTo(n int) []int {
	var list []int
	for i := range n + 1 {
		list = append(list, i)
	}
	return list
}
