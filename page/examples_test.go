package page_test

import (
	"slices"
	"strings"
	"testing"

	"redraft/api"
	"redraft/page"
)

// laid: a text's rows as the chapter writes them: the runes in quotes, h behind a hard one.
func laid(t *testing.T, text string, width int) string {
	t.Helper()
	rows, e := page.Lay(text, width)
	if e != api.OK {
		t.Fatalf("P19.3: Lay(%q, %d): %d", text, width, int(e))
	}
	var out []string
	for _, r := range rows {
		s := `"` + string([]rune(text)[r.Lo:r.Hi]) + `"`
		if r.Hard {
			s += "h"
		}
		out = append(out, strings.ReplaceAll(s, "\t", "~"))
	}
	return strings.Join(out, " ")
}

func TestExampleRows(t *testing.T) {
	for _, c := range []struct {
		text  string
		width int
		want  string
	}{
		{"", 5, `""h`},
		{"ab cd ef", 5, `"ab " "cd ef"h`},
		{"abcdefg", 5, `"abcde" "fg"h`},
		{"abcde fg", 5, `"abcde" " fg"h`},
		{"abcd efg", 5, `"abcd " "efg"h`},
		{"a\n\nb\n", 5, `"a"h ""h "b"h ""h`},
		{"\tab", 5, `"~" "ab"h`},
		{"\ta", 5, `"~a"h`},
		{"日本語", 5, `"日本" "語"h`},
		{"日本", 1, `"日" "本"h`},
	} {
		if got := laid(t, c.text, c.width); got != c.want {
			t.Errorf("P19.3: Lay(%q, %d): %s, want %s", c.text, c.width, got, c.want)
		}
		agree(t, c.text, c.width)
	}
}

func TestExampleLay(t *testing.T) {
	rows, e := page.Lay("ab cd ef", 5)
	if want := []api.Line{{Lo: 0, Hi: 3, Cols: 3}, {Lo: 3, Hi: 8, Cols: 5, Hard: true}}; e != api.OK || !slices.Equal(rows, want) {
		t.Errorf("P19.3: Lay = %v, %d, want %v", rows, int(e), want)
	}
}

func TestExampleSpots(t *testing.T) {
	for _, c := range []struct {
		text         string
		at, row, col int
	}{
		{"ab cd ef", 3, 1, 0}, {"ab cd ef", 2, 0, 2}, {"a\n\nb", 1, 0, 1}, {"a\n\nb", 2, 1, 0}, {"\ta", 1, 0, 4},
	} {
		row, col, e := page.Spot(c.text, 5, c.at)
		same(t, call{"P19.4: Spot", c.text, []int{5, c.at}}, []any{row, col, e}, []any{c.row, c.col, api.OK})
	}
}

func TestExampleFinds(t *testing.T) {
	for _, c := range []struct {
		text         string
		row, col, at int
		e            api.Errno
	}{
		{"ab cd ef", 0, 9, 2, api.OK}, {"ab cd ef", 1, 9, 8, api.OK}, {"\ta", 0, 3, 0, api.OK}, {"ab", 1, 0, 0, api.ErrPlace},
	} {
		at, e := page.Find(c.text, 5, c.row, c.col)
		same(t, call{"P19.5: Find", c.text, []int{5, c.row, c.col}}, []any{at, e}, []any{c.at, c.e})
	}
}

func TestExampleWalks(t *testing.T) {
	for _, c := range []struct {
		at, want, how, to, wants int
		e                        api.Errno
	}{
		{7, -1, 5, 2, 4, api.OK}, {2, 4, 6, 7, 4, api.OK}, {2, 4, 5, 0, 4, api.OK}, {5, -1, 3, 3, -1, api.OK}, {1, 9, 4, 2, -1, api.OK}, {3, 9, 1, 2, -1, api.OK},
		{9, -1, 0, 0, 0, api.ErrPlace},
	} {
		to, wants, e := page.Walk("ab cd ef", 5, c.at, c.want, c.how)
		same(t, call{"P19.6: Walk", "ab cd ef", []int{5, c.at, c.want, c.how}}, []any{to, wants, e}, []any{c.to, c.wants, c.e})
	}
}

func TestExampleShows(t *testing.T) {
	for _, c := range []struct {
		text               string
		height, top, caret int
		want               []string
	}{
		{"ab cd ef", 9, 0, 3, []string{"ab", "|cd ef"}}, {"ab cd ef", 1, 0, -1, []string{"ab"}}, {"ab ", 9, 0, 3, []string{"ab |"}},
		{"\ta", 9, 0, 1, []string{"    |a"}}, {"", 9, 0, 0, []string{"|"}},
	} {
		list, e := page.Show(c.text, 5, c.height, c.top, c.caret)
		if e != api.OK || !slices.Equal(list, c.want) {
			t.Errorf("P19.7: Show(%q, 5, %d, %d, %d) = %q, %d, want %q", c.text, c.height, c.top, c.caret, list, int(e), c.want)
		}
	}
}

func TestExampleTops(t *testing.T) {
	for _, c := range []struct{ height, old, caret, top int }{{2, 0, 6, 2}, {2, 3, 2, 1}, {2, 1, 4, 1}} {
		top, e := page.Top("a\nb\nc\nd", 5, c.height, c.old, c.caret)
		same(t, call{"P19.8: Top", "a\nb\nc\nd", []int{5, c.height, c.old, c.caret}}, []any{top, e}, []any{c.top, api.OK})
	}
}
