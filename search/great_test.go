package search_test

import (
	"slices"
	"strings"
	"testing"

	"redraft/api"
)

const greatText = 1 << 15

// Patterns on which going back and trying anew takes for ever: they come to an end, with the right answer.
func TestHardPatterns(t *testing.T) {
	a := strings.Repeat("a", greatText)
	deep := strings.Repeat("(", 60) + "a" + strings.Repeat(")+", 60)
	nested := strings.Repeat("(a|", 50) + "a" + strings.Repeat("+)", 50)
	for _, c := range []struct {
		source, text string
		match        bool
		all          int
		first        api.Range
	}{
		{strings.Repeat("a?", 85) + strings.Repeat("a", 85), a[:85], true, 1, api.Range{Lo: 0, Hi: 85}},
		{strings.Repeat("a?", 85) + strings.Repeat("a", 85), a[:170], true, 1, api.Range{Lo: 0, Hi: 170}},
		{strings.Repeat("a?", 85) + strings.Repeat("a", 85), a, false, greatText/170 + 1, api.Range{Lo: 0, Hi: 170}},
		{strings.Repeat("a*", 128), a, true, 1, api.Range{Lo: 0, Hi: greatText}},
		{strings.Repeat("a*", 127) + "b", a, false, 0, api.Range{}},
		{strings.Repeat("a*", 127) + "b", a + "b", true, 1, api.Range{Lo: 0, Hi: greatText + 1}},
		{deep, a, true, 1, api.Range{Lo: 0, Hi: greatText}},
		{deep + "b", a, false, 0, api.Range{}},
		{nested, a, true, 1, api.Range{Lo: 0, Hi: greatText}},
		{"(" + nested + ")+b", a, false, 0, api.Range{}},
		{"(a|aa)+b", a, false, 0, api.Range{}},
		{"(a|b|ab)*c", strings.Repeat("ab", greatText/2), false, 0, api.Range{}},
		{"a|a.*z", a, false, greatText, api.Range{Lo: 0, Hi: 1}},
		{"(a|a.*z)+", a, true, 1, api.Range{Lo: 0, Hi: greatText}},
		{".*b", a, false, 0, api.Range{}},
		{"(.*)(.*)(.*)(.*)b", a, false, 0, api.Range{}},
		{"(.|\n)*$", strings.Repeat("a\n", greatText/2), true, 1, api.Range{Lo: 0, Hi: greatText}},
		{"^|$|a", a, false, greatText, api.Range{Lo: 0, Hi: 1}},
		{"b*", a, false, greatText + 1, api.Range{}},
	} {
		p := compiled(t, c.source)
		if got, e := p.Match(c.text); got != c.match || e != api.OK {
			t.Errorf("P21.5: Match of %.40s on %d runes = %v, %v", c.source, len(c.text), got, e)
		}
		list, e := p.All(c.text)
		if len(list) != c.all || e != api.OK {
			t.Errorf("P21.7: All of %.40s on %d runes: %d, %v, want %d", c.source, len(c.text), len(list), e, c.all)
		}
		want := api.ErrUnknown
		if c.all > 0 {
			want = api.OK
		}
		if got, e := p.Find(c.text, 0); got != c.first || e != want {
			t.Errorf("P21.6: Find of %.40s on %d runes = %v, %v, want %v, %v", c.source, len(c.text), got, e, c.first, want)
		}
	}
}

// A text of a million runes of three bytes; places are runes there too.
func TestGreatTexts(t *testing.T) {
	text := strings.Repeat("\u20ac", 1<<20) + "ab"
	p := compiled(t, "ab|\u20acb")
	if got, e := p.Find(text, 0); got != (api.Range{Lo: 1 << 20, Hi: 1<<20 + 2}) || e != api.OK {
		t.Errorf("P21.6: %v, %v", got, e)
	}
	if got, e := p.Find(text, 1<<20+1); got != (api.Range{}) || e != api.ErrUnknown {
		t.Errorf("P21.6: %v, %v", got, e)
	}
	if list, e := compiled(t, "\u20ac").All(text); len(list) != 1<<20 || e != api.OK || list[1<<19] != (api.Range{Lo: 1 << 19, Hi: 1<<19 + 1}) {
		t.Errorf("P21.7: %d, %v", len(list), e)
	}
	if got, n, e := compiled(t, "[^a]").Replace(text, "&&"); n != 1<<20+1 || e != api.OK || len(got) != 6<<20+3 {
		t.Errorf("P21.8: %d bytes, %d, %v", len(got), n, e)
	}
	if plan, e := compiled(t, "\u20ac+").Plan(text, ""); e != api.OK || !slices.Equal(plan, []api.Splice{{At: 0, Del: 1 << 20}}) {
		t.Errorf("P21.9: %v, %v", plan, e)
	}
}

// The greatest text that a desk can hold by one user's inserts, all of it replaced.
func TestGreatRun(t *testing.T) {
	texts := slices.Repeat([]string{strings.Repeat("ab", 128)}, 8)
	d := newDesk(t, wide, texts...)
	was := d.Text()
	ops, err := compiled(t, "(ab)+").Run(d, "&")
	if len(ops) != 0 || err != nil {
		t.Errorf("P21.10: what is the same already is done again: %d, %v", len(ops), err)
	}
	if ops, err = compiled(t, "(ab)+").Run(d, strings.Repeat("cd", 1024)); err != nil || len(ops) != 9 || d.Text() != strings.Repeat("cd", 1024) {
		t.Errorf("P21.10: %d commands, %v", len(ops), err)
	}
	for range ops {
		if _, err := d.Undo(); err != nil {
			t.Fatal(err)
		}
	}
	if d.Text() != was {
		t.Errorf("P21.12: undone, the text is another one")
	}
	if ops, err = compiled(t, "b").Run(d, ""); api.Code(err) != api.ErrOps || len(ops) != api.MaxOps-8-9-9 || d.Shown() != 2048-len(ops) {
		t.Errorf("P21.10: %d commands, %v, %d runes are left", len(ops), err, d.Shown())
	}
}
