package page_test

import (
	"slices"
	"strings"
	"testing"

	"redraft/api"
	"redraft/page"
)

func TestP19_7Show(t *testing.T) {
	for _, c := range []struct {
		text                      string
		width, height, top, caret int
		want                      []string
	}{
		{"", 5, 1, 0, -1, []string{""}}, {"", 5, 1024, 0, 0, []string{"|"}}, {"\n", 5, 9, 0, -1, []string{"", ""}}, {"\n", 5, 9, 0, 0, []string{"|", ""}}, {"\n", 5, 9, 0, 1, []string{"", "|"}},
		// From each row, as many as there are, as many as the page is high.
		{"a\nb\nc", 5, 9, 0, -1, []string{"a", "b", "c"}}, {"a\nb\nc", 5, 9, 1, -1, []string{"b", "c"}}, {"a\nb\nc", 5, 9, 2, -1, []string{"c"}}, {"a\nb\nc", 5, 2, 0, -1, []string{"a", "b"}}, {"a\nb\nc", 5, 2, 1, -1, []string{"b", "c"}}, {"a\nb\nc", 5, 2, 2, -1, []string{"c"}}, {"a\nb\nc", 5, 3, 0, -1, []string{"a", "b", "c"}}, {"a\nb\nc", 5, 1, 1, -1, []string{"b"}},
		// The caret: at a row's beginning, inside, at its end; in a row that isn't shown.
		{"abc", 5, 9, 0, 0, []string{"|abc"}}, {"abc", 5, 9, 0, 2, []string{"ab|c"}}, {"abc", 5, 9, 0, 3, []string{"abc|"}}, {"abc\nd", 5, 9, 0, 3, []string{"abc|", "d"}}, {"abc\nd", 5, 9, 0, 4, []string{"abc", "|d"}}, {"abc\nd", 5, 1, 0, 4, []string{"abc"}}, {"abc\nd", 5, 1, 1, 3, []string{"d"}},
		// Between two rows of one line: in the second.
		{"abcdef", 3, 9, 0, 3, []string{"abc", "|def"}}, {"abcdef", 3, 1, 0, 3, []string{"abc"}}, {"abcdef", 3, 9, 1, 3, []string{"|def"}}, {"abcdef", 3, 9, 0, 6, []string{"abc", "def|"}}, {"ab cd", 3, 9, 0, 3, []string{"ab", "|cd"}}, {"ab cd", 3, 9, 0, 2, []string{"ab|", "cd"}},
		// Blanks at a row's end are left out, but for those ahead of the bar.
		{"ab   ", 9, 9, 0, -1, []string{"ab"}}, {"ab   ", 9, 9, 0, 5, []string{"ab   |"}}, {"ab   ", 9, 9, 0, 4, []string{"ab  |"}}, {"ab   ", 9, 9, 0, 2, []string{"ab|"}}, {"ab   ", 9, 9, 0, 1, []string{"a|b"}}, {"   ", 9, 9, 0, -1, []string{""}}, {"   ", 9, 9, 0, 0, []string{"|"}}, {"   ", 9, 9, 0, 3, []string{"   |"}}, {" a \n b ", 9, 9, 0, -1, []string{" a", " b"}},
		{"ab\u00a0\u3000", 9, 9, 0, -1, []string{"ab\u00a0\u3000"}}, {"ab \u0301 ", 9, 9, 0, -1, []string{"ab \u0301"}},
		// Tabs, by the column at which they begin; a bar ahead of one moves no stop.
		{"\ta\tb", 9, 9, 0, -1, []string{"    a   b"}}, {"\ta\tb", 9, 9, 0, 0, []string{"|    a   b"}}, {"\ta\tb", 9, 9, 0, 1, []string{"    |a   b"}}, {"\ta\tb", 9, 9, 0, 2, []string{"    a|   b"}}, {"\ta\tb", 9, 9, 0, 3, []string{"    a   |b"}}, {"a\t", 9, 9, 0, -1, []string{"a"}}, {"a\t", 9, 9, 0, 2, []string{"a   |"}}, {"a\t", 9, 9, 0, 1, []string{"a|"}}, {"abcd\tx", 9, 9, 0, -1, []string{"abcd    x"}}, {"日\tx", 9, 9, 0, -1, []string{"日  x"}}, {"e\u0301\tx", 9, 9, 0, -1, []string{"e\u0301   x"}}, {"\u0301\tx", 9, 9, 0, 1, []string{"\u0301|    x"}},
		{"xy ab\tc", 5, 9, 0, -1, []string{"xy", "ab  c"}}, {"\t\t", 2, 9, 0, 2, []string{"", "    |"}}, {"\tx", 1, 9, 0, 1, []string{"", "|x"}},
		// Runes without columns, wide ones, bars that are the text's own.
		{"e\u0301x", 9, 9, 0, 1, []string{"e|\u0301x"}}, {"e\u0301x", 9, 9, 0, 2, []string{"e\u0301|x"}}, {"日本", 1, 9, 0, 1, []string{"日", "|本"}}, {"日本", 1, 9, 0, 2, []string{"日", "本|"}}, {"a|b", 9, 9, 0, 1, []string{"a||b"}}, {"a|b", 9, 9, 0, -1, []string{"a|b"}}, {"a\U0001f600é", 9, 9, 0, 2, []string{"a\U0001f600|é"}},
	} {
		list, e := page.Show(c.text, c.width, c.height, c.top, c.caret)
		if e != api.OK || !slices.Equal(list, c.want) {
			t.Errorf("P19.7: Show(%q, %d, %d, %d, %d) = %q, %d, want %q", c.text, c.width, c.height, c.top, c.caret, list, int(e), c.want)
		}
	}
}

// The highest page shows as many rows as it is high, and no more.
func TestP19_7Highest(t *testing.T) {
	text := strings.Repeat("ab\n", 1499) + "ab"
	for _, c := range []struct{ height, top, n int }{{1024, 0, 1024}, {1024, 476, 1024}, {1024, 477, 1023}, {1024, 1499, 1}, {1023, 0, 1023}, {1, 1499, 1}} {
		list, e := page.Show(text, 2, c.height, c.top, 3*c.top+2)
		if e != api.OK || len(list) != c.n || list[0] != "ab|" || slices.ContainsFunc(list[1:], func(s string) bool { return s != "ab" }) {
			t.Errorf("P19.7: Show(.., 2, %d, %d, ..): %d rows, %d, the first %q", c.height, c.top, len(list), int(e), list[0])
		}
	}
}

func TestP19_8Top(t *testing.T) {
	const text = "a\nb\nc\nd\ne\nf" // row r holds the places 2r and 2r + 1
	for _, c := range []struct{ height, old, row, top int }{
		// Above the rows shown, among them, below them.
		{3, 2, 0, 0}, {3, 2, 1, 1}, {3, 2, 2, 2}, {3, 2, 3, 2}, {3, 2, 4, 2}, {3, 2, 5, 3}, {3, 0, 2, 0}, {3, 0, 3, 1}, {3, 0, 5, 3},
		{1, 0, 0, 0}, {1, 0, 1, 1}, {1, 0, 5, 5}, {1, 3, 3, 3}, {1, 5, 4, 4}, {6, 0, 5, 0}, {5, 0, 5, 1}, {1024, 0, 5, 0}, {1024, 5, 0, 0},
		// From rows that there are not.
		{3, 6, 5, 5}, {3, 99, 0, 0}, {1024, huge, 2, 2}, {1, huge, 5, 5}, {1024, huge - 1023, 5, 5},
	} {
		for _, caret := range []int{2 * c.row, min(2*c.row+1, 11)} {
			top, e := page.Top(text, 5, c.height, c.old, caret)
			same(t, call{"P19.8: Top", text, []int{5, c.height, c.old, caret}}, []any{top, e}, []any{c.top, api.OK})
		}
	}
	// Rows of one line, and the place between two of them.
	for caret, want := range []int{0, 0, 0, 1, 1, 1, 2, 2} {
		top, e := page.Top("abcdefgh", 3, 1, 0, caret)
		same(t, call{"P19.8: Top", "abcdefgh", []int{3, 1, 0, caret}}, []any{top, e}, []any{want, api.OK})
	}
}
