package page_test

import (
	"slices"
	"strings"
	"testing"

	"redraft/api"
	"redraft/page"
)

func hard(lo, hi, cols int) api.Line { return api.Line{Lo: lo, Hi: hi, Cols: cols, Hard: true} }
func soft(lo, hi, cols int) api.Line { return api.Line{Lo: lo, Hi: hi, Cols: cols} }

func TestP19_3Rows(t *testing.T) {
	for _, c := range []struct {
		text  string
		width int
		want  string
	}{
		// Lines.
		{"a", 1, `"a"h`}, {"\n", 3, `""h ""h`}, {"\n\n", 3, `""h ""h ""h`}, {"a\n", 3, `"a"h ""h`}, {"\na", 3, `""h "a"h`}, {"a\n\nb", 3, `"a"h ""h "b"h`},
		// Just full, and one rune more.
		{"abc", 3, `"abc"h`}, {"abcd", 3, `"abc" "d"h`}, {"abcdef", 3, `"abc" "def"h`}, {"abcdefg", 3, `"abc" "def" "g"h`}, {"abc\ndef", 3, `"abc"h "def"h`}, {"abc\n", 3, `"abc"h ""h`},
		// Blanks at the end of a full row, behind it, and many.
		{"ab ", 3, `"ab "h`}, {"ab c", 3, `"ab " "c"h`}, {"abc ", 3, `"abc" " "h`}, {"abc d", 3, `"abc" " d"h`}, {"abc  d", 3, `"abc" "  d"h`}, {"abc   d", 3, `"abc" "   " "d"h`},
		{"a  b", 3, `"a  " "b"h`}, {"a   b", 3, `"a  " " b"h`}, {"    ", 3, `"   " " "h`}, {"   \n ", 3, `"   "h " "h`}, {" abc", 3, `" " "abc"h`}, {" abcd", 3, `" " "abc" "d"h`},
		// The last blank counts, not the first.
		{"a b cd", 5, `"a b " "cd"h`}, {"a b c d e", 5, `"a b " "c d e"h`}, {"a bb cc", 5, `"a bb " "cc"h`}, {"a bbb cc", 5, `"a " "bbb " "cc"h`},
		// Words that are longer than a row, alone and behind a blank.
		{"a bcdefgh", 3, `"a " "bcd" "efg" "h"h`}, {"abcdefgh i", 3, `"abc" "def" "gh " "i"h`}, {"abcdef i", 3, `"abc" "def" " i"h`},
		// Tabs: at the beginning, inside, up to a stop that is the page's edge, one beyond it, several.
		{"\t", 4, `"~"h`}, {"\t", 3, `"~"h`}, {"\t\t", 3, `"~" "~"h`}, {"\t\t", 8, `"~~"h`}, {"\t\t", 7, `"~" "~"h`}, {"a\tb", 5, `"a~b"h`}, {"a\tb", 4, `"a~" "b"h`}, {"a\tb", 3, `"a" "~" "b"h`},
		{"abc\tb", 4, `"abc~" "b"h`}, {"abcd\tb", 4, `"abcd" "~" "b"h`}, {"abcd\tb", 8, `"abcd~" "b"h`}, {"abcd\tb", 9, `"abcd~b"h`}, {" \t ab", 5, `" ~ " "ab"h`}, {"a \tb", 2, `"a " "~" "b"h`},
		// A tab that goes into the next row is as wide as it is there.
		{"ab c\td", 5, `"ab " "c~d"h`}, {"xy abc\td", 7, `"xy " "abc~d"h`}, {"xy abc\tde", 5, `"xy " "abc~" "de"h`},
		{" abcd\t", 5, `" " "abcd" "~"h`}, {" abcd日", 5, `" " "abcd" "日"h`},
		// A line behind a line: columns begin anew.
		{"ab\n\tc", 5, `"ab"h "~c"h`}, {"abc\n\tcd", 5, `"abc"h "~" "cd"h`},
		// A bar is a rune like any other.
		{"a|b|", 2, `"a|" "b|"h`},
	} {
		if got := laid(t, c.text, c.width); got != c.want {
			t.Errorf("P19.3: Lay(%q, %d): %s, want %s", c.text, c.width, got, c.want)
		}
	}
}

// Runes of no columns at a row's beginning and end, and runes wider than the page.
func TestP19_3NoColumns(t *testing.T) {
	const mark = "\u0301"
	for _, c := range []struct {
		text  string
		width int
		want  []api.Line
	}{
		{mark, 1, []api.Line{hard(0, 1, 0)}},
		{mark + mark + mark, 1, []api.Line{hard(0, 3, 0)}},
		{"a" + mark, 1, []api.Line{hard(0, 2, 1)}},
		{"a" + mark + mark + "b" + mark, 1, []api.Line{soft(0, 3, 1), hard(3, 5, 1)}},
		{mark + "ab", 1, []api.Line{soft(0, 2, 1), hard(2, 3, 1)}},
		{mark + "日", 1, []api.Line{soft(0, 1, 0), hard(1, 2, 2)}},
		{"日" + mark, 1, []api.Line{soft(0, 1, 2), hard(1, 2, 0)}},
		{"日" + mark + "a", 1, []api.Line{soft(0, 1, 2), hard(1, 3, 1)}},
		{"日" + mark + "本", 2, []api.Line{soft(0, 2, 2), hard(2, 3, 2)}},
		{"ab " + mark + "cd", 3, []api.Line{soft(0, 3, 3), hard(3, 6, 2)}},
		{"ab" + mark + " cd", 3, []api.Line{soft(0, 4, 3), hard(4, 6, 2)}},
		{" " + mark + "a", 1, []api.Line{soft(0, 1, 1), hard(1, 3, 1)}},
		{"\t" + mark + "a", 4, []api.Line{soft(0, 1, 4), hard(1, 3, 1)}},
		{"\t" + mark, 4, []api.Line{hard(0, 2, 4)}},
		{"\t" + mark, 3, []api.Line{soft(0, 1, 4), hard(1, 2, 0)}},
		{"\t\t", 1, []api.Line{soft(0, 1, 4), hard(1, 2, 4)}},
		{"日本", 1, []api.Line{soft(0, 1, 2), hard(1, 2, 2)}},
		{"日\n本", 1, []api.Line{hard(0, 1, 2), hard(2, 3, 2)}},
		{"a日b", 1, []api.Line{soft(0, 1, 1), soft(1, 2, 2), hard(2, 3, 1)}},
		{"a日", 2, []api.Line{soft(0, 1, 1), hard(1, 2, 2)}},
		{"a日", 3, []api.Line{hard(0, 2, 3)}},
		{"a\U0001f600é", 3, []api.Line{soft(0, 2, 3), hard(2, 3, 1)}},
		{"\u200b\u200c\u200d\ufe0f\u036fab", 2, []api.Line{hard(0, 7, 2)}},
	} {
		rows, e := page.Lay(c.text, c.width)
		if e != api.OK || !slices.Equal(rows, c.want) {
			t.Errorf("P19.3: Lay(%q, %d) = %v, %d, want %v", c.text, c.width, rows, int(e), c.want)
		}
		agree(t, c.text, c.width)
	}
}

// The widest page: just full, and one rune more.
func TestP19_3Widest(t *testing.T) {
	full := strings.Repeat("a", api.MaxCols)
	for _, c := range []struct {
		text string
		want []api.Line
	}{
		{full, []api.Line{hard(0, 1024, 1024)}},
		{full + "\n" + full, []api.Line{hard(0, 1024, 1024), hard(1025, 2049, 1024)}},
		{full + "b", []api.Line{soft(0, 1024, 1024), hard(1024, 1025, 1)}},
		{full[2:] + " bc", []api.Line{soft(0, 1023, 1023), hard(1023, 1025, 2)}},
		{full[1:] + "日", []api.Line{soft(0, 1023, 1023), hard(1023, 1024, 2)}},
		{full[2:] + "日", []api.Line{hard(0, 1023, 1024)}},
		{strings.Repeat("\t", 257), []api.Line{soft(0, 256, 1024), hard(256, 257, 4)}},
		{full[1:] + "\t", []api.Line{hard(0, 1024, 1024)}},
		{full + "\u0301b", []api.Line{soft(0, 1025, 1024), hard(1025, 1026, 1)}},
	} {
		rows, e := page.Lay(c.text, api.MaxCols)
		if e != api.OK || !slices.Equal(rows, c.want) {
			t.Errorf("P19.3: Lay of %d bytes = %v, %d, want %v", len(c.text), rows, int(e), c.want)
		}
	}
}

// Every text of up to six runes, of each kind one, on every narrow page.
func TestP19_3ShortTexts(t *testing.T) {
	for n := range 7 {
		each(n, func(text string) {
			for width := 1; width <= 6; width++ {
				agreeLay(t, text, width, modelOf(text, width))
			}
		})
	}
}

// kinds: runes of each kind: one column, blanks, a new line, none, two columns.
var kinds = []rune{'a', ' ', '\t', '\n', 0x301, '日'}

// each: all texts of n runes of these kinds.
func each(n int, do func(text string)) {
	count := 1
	for range n {
		count *= len(kinds)
	}
	for number := range count {
		var text []rune
		for range n {
			text = append(text, kinds[number%len(kinds)])
			number /= len(kinds)
		}
		do(string(text))
	}
}
