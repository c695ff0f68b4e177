package page_test

import (
	"testing"

	"redraft/api"
	"redraft/page"
)

func TestP19_4Spot(t *testing.T) {
	for _, c := range []struct {
		text         string
		width        int
		at, row, col int
	}{
		{"", 1, 0, 0, 0},
		// Between two rows of one line: at the beginning of the second, whether the first ends behind a blank or not.
		{"ab cd", 3, 2, 0, 2}, {"ab cd", 3, 3, 1, 0}, {"abcdef", 3, 2, 0, 2}, {"abcdef", 3, 3, 1, 0}, {"abcdef", 3, 6, 1, 3},
		// A new line's place: at the end of its line's last row, full or not.
		{"abc\nd", 3, 3, 0, 3}, {"abc\nd", 3, 4, 1, 0}, {"abcd\ne", 3, 4, 1, 1}, {"abcd\ne", 3, 5, 2, 0}, {"\n\n", 3, 0, 0, 0}, {"\n\n", 3, 1, 1, 0}, {"\n\n", 3, 2, 2, 0}, {"a\n", 3, 2, 1, 0},
		// Behind a tab, a wide rune, runes without columns.
		{"\ta\tb", 9, 1, 0, 4}, {"\ta\tb", 9, 2, 0, 5}, {"\ta\tb", 9, 3, 0, 8}, {"\ta\tb", 9, 4, 0, 9}, {"日a", 3, 1, 0, 2}, {"e\u0301\u0301x", 3, 1, 0, 1}, {"e\u0301\u0301x", 3, 2, 0, 1}, {"e\u0301\u0301x", 3, 3, 0, 1}, {"e\u0301\u0301x", 3, 4, 0, 2},
		// A row that is wider than the page.
		{"日", 1, 1, 0, 2}, {"日a", 1, 1, 1, 0}, {"\t", 1, 1, 0, 4}, {"\t\t", 2, 2, 1, 4},
	} {
		row, col, e := page.Spot(c.text, c.width, c.at)
		same(t, call{"P19.4: Spot", c.text, []int{c.width, c.at}}, []any{row, col, e}, []any{c.row, c.col, api.OK})
	}
}

func TestP19_5Find(t *testing.T) {
	for _, c := range []struct {
		text         string
		width        int
		row, col, at int
	}{
		{"", 1, 0, 0, 0}, {"", 1, 0, huge, 0},
		// A hard row's end is a place of it, a soft one's is not.
		{"abcdef", 3, 0, 2, 2}, {"abcdef", 3, 0, 3, 2}, {"abcdef", 3, 0, huge, 2}, {"abcdef", 3, 1, 3, 6}, {"abcdef", 3, 1, huge, 6}, {"ab cd", 3, 0, 2, 2}, {"ab cd", 3, 0, 3, 2}, {"a\nb", 3, 0, 1, 1}, {"a\nb", 3, 0, 9, 1}, {"a\nb", 3, 1, 0, 2},
		// Inside of a tab and of a wide rune: ahead of it.
		{"a\tb", 9, 0, 1, 1}, {"a\tb", 9, 0, 2, 1}, {"a\tb", 9, 0, 3, 1}, {"a\tb", 9, 0, 4, 2}, {"日本", 9, 0, 1, 0}, {"日本", 9, 0, 2, 1}, {"日本", 9, 0, 3, 1}, {"日本", 9, 0, 4, 2},
		// Runes without columns: behind them, if there is no more column to go.
		{"e\u0301x", 9, 0, 0, 0}, {"e\u0301x", 9, 0, 1, 2}, {"\u0301\u0301x", 9, 0, 0, 2}, {"e\u0301", 9, 0, 1, 2}, {"e\u0301x", 1, 0, 1, 1}, {"\u0301", 1, 0, 0, 1},
		// A row that is wider than the page.
		{"日a", 1, 0, 0, 0}, {"日a", 1, 0, 2, 0}, {"日", 1, 0, 1, 0}, {"日", 1, 0, 2, 1}, {"\t\t", 2, 0, 4, 0}, {"\t\t", 2, 1, 3, 1}, {"\t\t", 2, 1, 4, 2},
	} {
		at, e := page.Find(c.text, c.width, c.row, c.col)
		same(t, call{"P19.5: Find", c.text, []int{c.width, c.row, c.col}}, []any{at, e}, []any{c.at, api.OK})
	}
}

// Places and rows beside those that there are.
func TestBounds(t *testing.T) {
	for _, text := range someTexts() {
		for _, width := range []int{1, 2, 5, 1024} {
			m := modelOf(text, width)
			n, rows := len(m.runes), len(m.rows)
			for _, at := range []int{least, -2, -1, n + 1, n + 2, huge} {
				row, col, e := page.Spot(text, width, at)
				same(t, call{"P19.4: Spot", text, []int{width, at}}, []any{row, col, e}, []any{0, 0, api.ErrPlace})
				to, wants, e := page.Walk(text, width, at, 0, 1)
				same(t, call{"P19.6: Walk", text, []int{width, at, 0, 1}}, []any{to, wants, e}, []any{0, 0, api.ErrPlace})
				top, e := page.Top(text, width, 1, 0, at)
				same(t, call{"P19.8: Top", text, []int{width, 1, 0, at}}, []any{top, e}, []any{0, api.ErrPlace})
			}
			for _, row := range []int{least, -2, -1, rows, rows + 1, huge} {
				at, e := page.Find(text, width, row, 0)
				same(t, call{"P19.5: Find", text, []int{width, row, 0}}, []any{at, e}, []any{0, api.ErrPlace})
				list, e := page.Show(text, width, 1, row, 0)
				same(t, call{"P19.7: Show", text, []int{width, 1, row, 0}}, []any{len(list), e}, []any{0, api.ErrPlace})
			}
			for _, caret := range []int{least, -3, -2, n + 1, n + 2, huge} {
				list, e := page.Show(text, width, 1, rows-1, caret)
				same(t, call{"P19.7: Show", text, []int{width, 1, rows - 1, caret}}, []any{len(list), e}, []any{0, api.ErrPlace})
			}
			for _, col := range []int{least, -2, -1} {
				at, e := page.Find(text, width, rows-1, col)
				same(t, call{"P19.5: Find", text, []int{width, rows - 1, col}}, []any{at, e}, []any{0, api.ErrPlace})
				top, e := page.Top(text, width, 1, col, n)
				same(t, call{"P19.8: Top", text, []int{width, 1, col, n}}, []any{top, e}, []any{0, api.ErrPlace})
			}
		}
	}
}

// someTexts: empty lines, new lines at both ends, full rows, blanks, tabs, wide runes, runes without columns.
func someTexts() []string {
	return []string{
		"", "a", "\n", "\n\n\n", "ab cd ef", "abcde fg", "a\n\nb\n", "\tab\t", "日本語 の  テキスト", "one two  three\nfour\tfive\n\n six", "e\u0301 \u0301e\u0301\u0301\n\u0301",
		"   \n  \t \n", "a|b |", "caf\u00e9 \U0001f600\U0001f600x \u200b\u200d",
	}
}
