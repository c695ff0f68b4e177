package page_test

import (
	"strings"
	"testing"

	"redraft/api"
	"redraft/page"
)

// laws: what the chapter says follows, held against the answers alone.
func laws(t *testing.T, text string, width int) {
	t.Helper()
	rows, e := page.Lay(text, width)
	if e != api.OK {
		t.Fatalf("P19.3: Lay(%q, %d): %d", text, width, int(e))
	}
	runes := []rune(text)
	nothingLost(t, runes, width, rows)
	asFull(t, runes, width, rows)
	thereAndBack(t, text, width, rows)
}

// columnsOf: runes from column 0 on, by page's own Cols.
func columnsOf(runes []rune) int {
	col := 0
	for _, r := range runes {
		col += page.Cols(r, col)
	}
	return col
}

func nothingLost(t *testing.T, runes []rune, width int, rows []api.Line) {
	t.Helper()
	var back []rune
	for i, r := range rows {
		back = append(back, runes[r.Lo:r.Hi]...)
		if r.Hard && i < len(rows)-1 {
			back = append(back, '\n')
		}
		if r.Cols > width && r.Hi-r.Lo != 1 {
			t.Fatalf("P19.9: %q, %d: row %v is too wide", string(runes), width, r)
		}
		if r.Cols != columnsOf(runes[r.Lo:r.Hi]) || strings.ContainsRune(string(runes[r.Lo:r.Hi]), '\n') {
			t.Fatalf("P19.3: %q, %d: row %v", string(runes), width, r)
		}
	}
	if string(back) != string(runes) || !rows[len(rows)-1].Hard {
		t.Fatalf("P19.9: %q, %d: the rows are %q", string(runes), width, string(back))
	}
}

func asFull(t *testing.T, runes []rune, width int, rows []api.Line) {
	t.Helper()
	for i, r := range rows {
		if r.Hard {
			continue
		}
		if rows[i+1].Lo != r.Hi {
			t.Fatalf("P19.10: %q, %d: row %v does not go on where %v ends", string(runes), width, rows[i+1], r)
		}
		next := r.Hi // up to behind the next blank, or to the line's end
		for next < len(runes) && runes[next] != '\n' {
			next++
			if isBlank(runes[next-1]) {
				break
			}
		}
		blanks := strings.ContainsAny(string(runes[r.Lo:r.Hi]), " \t")
		if columnsOf(runes[r.Lo:next]) <= width || blanks && !isBlank(runes[r.Hi-1]) {
			t.Fatalf("P19.10: %q, %d: row %v", string(runes), width, r)
		}
	}
}

func thereAndBack(t *testing.T, text string, width int, rows []api.Line) {
	t.Helper()
	n := len([]rune(text))
	cols := make([]int, n+1)
	inRow := make([]int, n+1)
	for at := range n + 1 {
		inRow[at], cols[at], _ = page.Spot(text, width, at)
		found, e := page.Find(text, width, inRow[at], cols[at])
		if e != api.OK || found < at {
			t.Fatalf("P19.11: %q, %d: of place %d there, %d back", text, width, at, found)
		}
		if row, col, _ := page.Spot(text, width, found); row != inRow[at] || col != cols[at] {
			t.Fatalf("P19.11: %q, %d: of place %d there, %d back, which is at %d, %d", text, width, at, found, row, col)
		}
	}
	for row, r := range rows {
		for col := range r.Cols + 2 {
			found, _ := page.Find(text, width, row, col)
			if inRow[found] != row || cols[found] > col {
				t.Fatalf("P19.11: %q, %d: at row %d, column %d place %d, which is at %d, %d", text, width, row, col, found, inRow[found], cols[found])
			}
			if found < n && inRow[found+1] == row && cols[found+1] <= col {
				t.Fatalf("P19.5: %q, %d: at row %d, column %d place %d, which is not the last one", text, width, row, col, found)
			}
		}
	}
}

// shown: P19.12, for every caret, from every row on.
func shown(t *testing.T, text string, width, height int) {
	t.Helper()
	rows, _ := page.Lay(text, width)
	for caret := range len([]rune(text)) + 1 {
		row, _, _ := page.Spot(text, width, caret)
		for old := range len(rows) + 2 {
			top, e := page.Top(text, width, height, old, caret)
			if e != api.OK || old <= row && row-old < height && top != old {
				t.Fatalf("P19.12: Top(%q, %d, %d, %d, %d) = %d, %d", text, width, height, old, caret, top, int(e))
			}
			with, _ := page.Show(text, width, height, top, caret)
			without, _ := page.Show(text, width, height, top, -1)
			if len(with) != len(without) || len(with) == 0 {
				t.Fatalf("P19.12: %q, %d, %d: %d rows and %d", text, width, height, len(with), len(without))
			}
			for i := range with {
				more := strings.Count(with[i], "|") - strings.Count(without[i], "|")
				if top+i == row && more != 1 || top+i != row && with[i] != without[i] {
					t.Fatalf("P19.12: %q, %d, %d: the caret at %d stands in row %d; row %d is %q, without it %q", text, width, height, caret, row, top+i, with[i], without[i])
				}
			}
			if row < top || row-top >= len(with) {
				t.Fatalf("P19.12: %q, %d, %d: from %d on row %d is not shown", text, width, height, top, row)
			}
		}
	}
}

func TestLawsOfSomeTexts(t *testing.T) {
	for _, text := range someTexts() {
		for _, width := range []int{1, 2, 3, 4, 5, 8, 13, 1024} {
			laws(t, text, width)
			for _, height := range []int{1, 2, 3, 1024} {
				shown(t, text, width, height)
			}
		}
	}
}

func TestLawsOfShortTexts(t *testing.T) {
	for n := range 5 {
		each(n, func(text string) {
			for width := 1; width <= 5; width++ {
				laws(t, text, width)
				shown(t, text, width, 2)
			}
		})
	}
}
