package page_test

import (
	"testing"

	"redraft/api"
	"redraft/page"
	"redraft/utext"
)

const (
	home, end, up, down = 3, 4, 5, 6
)

// walkTo: where a walk goes that isn't refused.
func walkTo(t *testing.T, text string, width, at, want, how int) (to, wants int) {
	t.Helper()
	to, wants, e := page.Walk(text, width, at, want, how)
	if e != api.OK {
		t.Fatalf("P19.6: Walk(%q, %d, %d, %d, %d): %d", text, width, at, want, how, int(e))
	}
	return to, wants
}

// The walks that are utext's go where that goes, from every place, whatever the width and the wish.
func TestP19_6Steps(t *testing.T) {
	for _, text := range someTexts() {
		n := len([]rune(text))
		for at := range n + 1 {
			for _, how := range []int{1, 2, 7, 8, 9, 10} {
				want, _ := utext.Step(text, at, how)
				for _, width := range []int{1, 3, 1024} {
					for _, wish := range []int{least, -1, 0, 4, huge} {
						to, wants, e := page.Walk(text, width, at, wish, how)
						same(t, call{"P19.6: Walk", text, []int{width, at, wish, how}}, []any{to, wants, e}, []any{want, -1, api.OK})
					}
				}
			}
		}
	}
}

// Home and End go by rows and not by lines.
func TestP19_6Edges(t *testing.T) {
	for _, c := range []struct {
		text           string
		width, at, how int
		to             int
	}{
		{"abcdef", 3, 0, home, 0}, {"abcdef", 3, 2, home, 0}, {"abcdef", 3, 3, home, 3}, {"abcdef", 3, 6, home, 3}, {"abcdef", 3, 0, end, 2}, {"abcdef", 3, 2, end, 2}, {"abcdef", 3, 3, end, 6}, {"abcdef", 3, 6, end, 6},
		{"ab cd\nef", 3, 1, end, 2}, {"ab cd\nef", 3, 4, home, 3}, {"ab cd\nef", 3, 4, end, 5}, {"ab cd\nef", 3, 5, home, 3}, {"ab cd\nef", 3, 7, home, 6}, {"ab cd\nef", 3, 7, end, 8},
		{"", 3, 0, home, 0}, {"", 3, 0, end, 0}, {"\n\n", 3, 1, home, 1}, {"\n\n", 3, 1, end, 1}, {"a\n", 3, 2, end, 2}, {"a\n", 3, 1, end, 1},
		{"日a", 1, 0, end, 0}, {"日a", 1, 1, home, 1}, {"日", 1, 0, end, 1}, {"ab\u0301c", 2, 0, end, 2},
	} {
		for _, wish := range []int{least, -1, 0, 2, huge} {
			to, wants, e := page.Walk(c.text, c.width, c.at, wish, c.how)
			same(t, call{"P19.6: Walk", c.text, []int{c.width, c.at, wish, c.how}}, []any{to, wants, e}, []any{c.to, -1, api.OK})
		}
	}
}

func TestP19_6UpDown(t *testing.T) {
	for _, c := range []struct {
		text          string
		width         int
		at, want, how int
		to, wants     int
	}{
		// From the first row up, from the last one down: to the text's edges, whatever the wish; it stays.
		{"abc", 5, 2, -1, up, 0, 2}, {"abc", 5, 2, 1, up, 0, 1}, {"abc", 5, 2, huge, up, 0, huge}, {"abc", 5, 1, -1, down, 3, 1}, {"abc", 5, 1, 0, down, 3, 0}, {"abc", 5, 3, huge, down, 3, huge},
		{"", 5, 0, -1, up, 0, 0}, {"", 5, 0, 7, down, 0, 7}, {"", 5, 0, least, down, 0, 0}, {"abc", 5, 0, least, up, 0, 0},
		// The wish, and not the column.
		{"abcdef", 3, 4, -1, up, 1, 1}, {"abcdef", 3, 4, least, up, 1, 1}, {"abcdef", 3, 4, 0, up, 0, 0}, {"abcdef", 3, 4, 2, up, 2, 2}, {"abcdef", 3, 1, -1, down, 4, 1}, {"abcdef", 3, 1, 0, down, 3, 0}, {"abcdef", 3, 1, 2, down, 5, 2},
		// Beyond a soft row's last place, and at a hard one's end.
		{"abcdef", 3, 6, -1, up, 2, 3}, {"abcdef", 3, 4, 9, up, 2, 9}, {"abcdef", 3, 0, 3, down, 6, 3}, {"abcdef", 3, 0, huge, down, 6, huge},
		// Rows of other lines, empty ones too.
		{"abc\n\nabc", 5, 3, -1, down, 4, 3}, {"abc\n\nabc", 5, 4, -1, down, 5, 0}, {"abc\n\nabc", 5, 4, 3, down, 8, 3}, {"abc\n\nabc", 5, 7, -1, up, 4, 2}, {"abc\n\nabc", 5, 4, 2, up, 2, 2}, {"a\n", 5, 1, -1, down, 2, 1}, {"a\n", 5, 2, 1, up, 1, 1},
		// By columns and not by runes.
		{"\tx\nabcdefgh", 9, 1, -1, down, 7, 4}, {"\tx\nabcdefgh", 9, 6, -1, up, 0, 3}, {"日本\nabcd", 5, 1, -1, down, 5, 2}, {"日本\nabcd", 5, 4, -1, up, 0, 1}, {"e\u0301x\nab", 5, 4, -1, up, 0, 0}, {"e\u0301x\nab", 5, 5, -1, up, 2, 1},
		// On a page that is narrower than a rune.
		{"日本", 1, 2, -1, up, 0, 2}, {"日本", 1, 0, -1, down, 1, 0}, {"日本", 1, 0, 2, down, 2, 2},
	} {
		to, wants, e := page.Walk(c.text, c.width, c.at, c.want, c.how)
		same(t, call{"P19.6: Walk", c.text, []int{c.width, c.at, c.want, c.how}}, []any{to, wants, e}, []any{c.to, c.wants, api.OK})
	}
}

// A caret that is handed its wishes goes through shorter rows and comes back to its column.
func TestP19_6Back(t *testing.T) {
	const text = "abcdefgh\nab\n\nabcd efghij\nx"
	const width = 8
	rows, _ := page.Lay(text, width)
	for at := range len(text) + 1 {
		row, col, _ := page.Spot(text, width, at)
		for _, how := range []int{up, down} {
			place, wish, n := at, -1, 0
			for r := row; 0 < r && how == up || r < len(rows)-1 && how == down; r += 2*how - 11 {
				place, wish = walkTo(t, text, width, place, wish, how)
				n++
				if wish != col {
					t.Fatalf("P19.6: from place %d by walk %d: wants %d, want %d", at, how, wish, col)
				}
			}
			for range n {
				place, wish = walkTo(t, text, width, place, wish, 11-how)
			}
			if place != at {
				t.Fatalf("P19.6: from place %d %d rows by walk %d and back: %d", at, n, how, place)
			}
		}
	}
}

// Up and down again and again end at the text's edges, and stay there.
func TestP19_6Ends(t *testing.T) {
	for _, text := range someTexts() {
		n := len([]rune(text))
		rows, _ := page.Lay(text, 4)
		for _, wish := range []int{-1, 0, 2, huge} {
			for at := range n + 1 {
				for how, edge := range map[int]int{up: 0, down: n} {
					place, wants := at, wish
					for range len(rows) + 1 {
						place, wants = walkTo(t, text, 4, place, wants, how)
					}
					if place != edge {
						t.Fatalf("P19.6: in %q from place %d by walk %d: %d, want %d", text, at, how, place, edge)
					}
				}
			}
		}
	}
}
