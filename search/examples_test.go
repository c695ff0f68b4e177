package search_test

import (
	"fmt"
	"slices"
	"testing"

	"redraft/api"
	"redraft/desk"
	"redraft/search"
)

func compiled(t *testing.T, source string) *search.Pattern {
	t.Helper()
	p, at, e := search.Compile(source)
	if p == nil || at != 0 || e != api.OK {
		t.Fatalf("P21.2: Compile(%q) = %v, %d, %v", source, p != nil, at, e)
	}
	return p
}

func newDesk(t *testing.T, lim api.Limits, texts ...string) *desk.Desk {
	t.Helper()
	d, err := desk.New(1, lim)
	if err != nil {
		t.Fatal(err)
	}
	for _, s := range texts {
		if _, err := d.Insert(d.Shown(), s); err != nil {
			t.Fatal(err)
		}
	}
	return d
}

var wide = api.Limits{Clients: 2, Cells: api.MaxCells, Ops: api.MaxOps}

func TestExamplesOfPrint(t *testing.T) {
	for source, want := range map[string]string{
		"a|b*c": "a|b*c", "(a)(bc)*": "a(bc)*", "((a|b))|c": "a|b|c", "(a|b)c": "(a|b)c", "((a))+(b+)+": "a+(b+)+", `[b-da][a-b][x\-x]`: `[a-d][ab][\-x]`,
	} {
		if got := compiled(t, source).Print(); got != want {
			t.Errorf("P21.3: %s is printed as %s, want %s", source, got, want)
		}
	}
}

func TestExamplesOfFaults(t *testing.T) {
	for _, c := range []struct {
		source string
		at     int
		e      api.Errno
	}{
		{"", 0, api.ErrPattern}, {"a|", 2, api.ErrPattern}, {"(a", 2, api.ErrPattern}, {"a)", 1, api.ErrPattern},
		{"*a", 0, api.ErrPattern}, {"a**", 2, api.ErrPattern}, {"]", 0, api.ErrPattern},
		{"(a*)*", 4, api.ErrRepeat}, {"^+", 1, api.ErrRepeat}, {"(a?|b)+", 6, api.ErrRepeat},
		{`a\q`, 2, api.ErrPattern}, {`\`, 1, api.ErrPattern},
		{"[]", 1, api.ErrPattern}, {"[^]", 2, api.ErrPattern}, {"[a-]", 3, api.ErrPattern}, {"[-a]", 1, api.ErrPattern}, {"[a", 2, api.ErrPattern}, {"[c-ab]", 3, api.ErrPattern},
	} {
		if p, at, e := search.Compile(c.source); p != nil || at != c.at || e != c.e {
			t.Errorf("P21.2: Compile(%q) = %v, %d, %v, want %d, %v", c.source, p != nil, at, e, c.at, c.e)
		}
	}
}

// pack: a call's answers as one line.
func pack(v ...any) string { return fmt.Sprint(v...) }

func TestExamplesOfTheRest(t *testing.T) {
	on := func(source string) *search.Pattern { return compiled(t, source) }
	none := []api.Splice(nil)
	for i, c := range [][2]string{
		{pack(on("a|b*c").Match("bbc")), pack(true, api.OK)},
		{pack(on("a|b*c").Match("ab")), pack(false, api.OK)},
		{pack(on("a|b*c").Match("")), pack(false, api.OK)},
		{pack(on("a*").Empty(), on("^$").Empty(), on(`\b`).Empty(), on("a").Empty()), pack(true, true, false, false)},
		{pack(on("a|ab").Find("xab", 0)), pack(api.Range{Lo: 1, Hi: 3}, api.OK)},
		{pack(on("^b").Find("a\nb", 0)), pack(api.Range{Lo: 2, Hi: 3}, api.OK)},
		{pack(on("^b").Find("a\nb", 3)), pack(api.Range{}, api.ErrUnknown)},
		{pack(on(`\bcat\b`).Find("cat concat cat", 0)), pack(api.Range{Lo: 0, Hi: 3}, api.OK)},
		{pack(on(`\bcat\b`).Find("cat concat cat", 1)), pack(api.Range{Lo: 11, Hi: 14}, api.OK)},
		{pack(on("a*").All("baac")), pack([]api.Range{{Lo: 0, Hi: 0}, {Lo: 1, Hi: 3}, {Lo: 4, Hi: 4}}, api.OK)},
		{pack(on("a*").Replace("baac", "<&>")), pack("<>b<aa>c<>", 3, api.OK)},
		{pack(on("a*").Plan("baac", "<&>")), pack([]api.Splice{{At: 4, Ins: "<>"}, {At: 1, Del: 2, Ins: "<aa>"}, {Ins: "<>"}}, api.OK)},
		{pack(on("o").Replace("foo", `\&`)), pack("f&&", 2, api.OK)},
		{pack(on("o").Replace("foo", `x\`)), pack("", 0, api.ErrPattern)},
		{pack(on("o|f").Plan("foo", "&")), pack(none, api.OK)},
	} {
		if c[0] != c[1] {
			t.Errorf("P21.4 to P21.9: example %d: %s, want %s", i+1, c[0], c[1])
		}
	}
}

func TestExampleOfRun(t *testing.T) {
	d := newDesk(t, wide, "one two one")
	ops, err := compiled(t, "one").Run(d, "1")
	var kinds []api.Kind
	for _, o := range ops {
		kinds = append(kinds, o.Kind)
	}
	if err != nil || !slices.Equal(kinds, []api.Kind{api.Hide, api.Ins, api.Hide, api.Ins}) || d.Text() != "1 two 1" {
		t.Errorf("P21.10: Run makes %v, %v; the text is %q", kinds, err, d.Text())
	}
}
