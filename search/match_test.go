package search_test

import (
	"math"
	"math/rand"
	"slices"
	"testing"

	"redraft/api"
	"redraft/search"
)

// holdFinds holds Empty, Match, Find and All of a pattern against cutting stretches. (again is the pattern of its print.)
func holdFinds(t *testing.T, source string, p, again *search.Pattern, tree pattern, text string) {
	t.Helper()
	s := subjectOf(text)
	n := len(s.text)
	if got, e := p.Match(text); got != s.matches(tree, 0, n) || e != api.OK {
		t.Fatalf("P21.5: Match of %q on %q = %v, %v", source, text, got, e)
	}
	if got, e := again.Match(text); got != s.matches(tree, 0, n) || e != api.OK {
		t.Fatalf("P21.11: Match of the print of %q on %q = %v, %v", source, text, got, e)
	}
	want := s.all(tree, 0)
	for _, x := range []*search.Pattern{p, again} {
		if got, e := x.All(text); !slices.Equal(got, want) || e != api.OK {
			t.Fatalf("P21.7: All of %q on %q = %v, %v, want %v", source, text, got, e, want)
		}
	}
	for from := 0; from <= n; from++ {
		want, e := s.find(tree, from)
		for _, x := range []*search.Pattern{p, again} {
			if got, gotE := x.Find(text, from); got != want || gotE != e {
				t.Fatalf("P21.6: Find of %q on %q from %d = %v, %v, want %v, %v", source, text, from, got, gotE, want, e)
			}
		}
		holdFound(t, source, p, tree, s, from, want, e)
	}
}

// holdFound: P21.13, of what Find has found from that place on.
func holdFound(t *testing.T, source string, p *search.Pattern, tree pattern, s *subject, from int, found api.Range, e api.Errno) {
	t.Helper()
	all := s.all(tree, from)
	if (len(all) > 0) != (e == api.OK) || len(all) > 0 && all[0] != found {
		t.Fatalf("P21.13: Find of %q on %q from %d = %v, %v, All from there %v", source, string(s.text), from, found, e, all)
	}
	if e == api.OK && tree.edgeless() {
		if ok, _ := p.Match(string(s.text[found.Lo:found.Hi])); !ok {
			t.Fatalf("P21.13: %q finds %v in %q, and does not match it", source, found, string(s.text))
		}
	}
}

// onAll: a source, if it is a pattern, on all texts.
func onAll(t *testing.T, source string, texts []string) bool {
	t.Helper()
	p, tree := hold(t, source)
	if p == nil {
		return false
	}
	again := compiled(t, p.Print())
	if want := subjectOf("").matches(tree, 0, 0); p.Empty() != want || again.Empty() != want {
		t.Fatalf("P21.4: Empty of %q = %v, want %v", source, p.Empty(), want)
	}
	for _, text := range texts {
		holdFinds(t, source, p, again, tree, text)
	}
	return true
}

func textsOf(alphabet string, most int) []string {
	var list []string
	eachOf(alphabet, most, func(s string) { list = append(list, s) })
	return list
}

func TestSmallPatternsOnSmallTexts(t *testing.T) {
	for _, c := range []struct {
		alphabet string
		most     int
		texts    []string
	}{
		{"ab|()*", 5, textsOf("ab", 3)}, {"ab(|)+?", 5, textsOf("ab", 3)}, {`a^$\b|`, 5, textsOf("a\n.", 3)}, {"a^$()*|", 5, textsOf("a\n", 3)}, {`\wdsb.`, 5, textsOf("a7 \n", 2)}, {`[]^a-c`, 5, textsOf("abc^", 2)},
	} {
		good := 0
		eachOf(c.alphabet, c.most, func(source string) {
			if onAll(t, source, c.texts) {
				good++
			}
		})
		if good < 100 {
			t.Errorf("only %d patterns of %s", good, c.alphabet)
		}
	}
}

// Patterns of two and three repeated parts, one behind the other and in one another, on longer texts.
func TestRepeatedOnLongerTexts(t *testing.T) {
	texts := textsOf("ab", 6)
	for _, source := range []string{
		"(ab)*", "(a|ab)*", "(ab|a)+b", "(a|ab)(bb|b)", "a*a*a", "(a+b)*", "(a+b+)+", "((a|b)b)*a", "(a*b)*", "(a*b)*a?", "(a?b)+", "((ab)+|b)*", "((a+)+b)+", "(b|a(b|aa)*a)*", "((a|b)(a|b))*", "a(b*a)*b*", "(aa|aaa)+", "(a|aa|ab|ba)+",
		"a|b*a|ab", "(a|ab|aba)(b|ba|a)?", "a?a?a?aaa", "(a|b)*b(a|b)", "((a)*b|a(b)*)", "(aab?|a)*", "b?(ab)*a?", "(a(b(a)?)?)+", "((a|b)+a)+", "(a?a?b)*",
	} {
		if !onAll(t, source, texts) {
			t.Errorf("%q is no pattern", source)
		}
	}
}

// Each of the three at beginnings, ends, new lines and word runes.
func TestEdges(t *testing.T) {
	texts := append(textsOf("a\n-", 4), "_", "0", "Z", "\u00bf", "\u00c0", "\u00c0\u00bf", "\u00e9a", "a\u20ac", "a \u00e9", "\U0001f600-", "@A", "[`z{", "/09:", "a\tb", "\n\n\n\n")
	for _, source := range []string{
		"^", "$", `\b`, "^$", "$^", "^^", `\b\b`, `^\b`, `\b$`, "^a", "a$", `\ba`, `a\b`, `\b.\b`, "^.*$", "^.*", ".*$", "a^b", "a$\n^a", "\n^", "$\n", "^\n$", `\b-\b`, "(^|-)a", "a(-|$)", "(^a|b)*", `(a\b|-)+`, `(\ba)+`, `\w+\b`, `\b\w+\b`, "a*^", "a*$", `a*\b`, "^a*", "$a*", `\ba*`, "(a*|^)(-|$)",
		"^(a|-)+$", "(\n|^a)+", "[^a]$", ".$.", "a?^a?", `\s^`, `\d\b`, `(^|\b)(a|$)`,
	} {
		if !onAll(t, source, texts) {
			t.Errorf("%q is no pattern", source)
		}
	}
}

// Which runes an atom takes: each kind on runes at its edges.
func TestRunesOfAtoms(t *testing.T) {
	texts := []string{
		"\n", "\t", " ", "!", "*", "+", ",", "-", ".", "/", "0", "1", "9", ":", "?", "@", "A", "B", "Z", "[", `\`, "]", "^", "_", "`", "a", "b", "y", "z", "{", "|", "~",
		"\u00a0", "\u00bf", "\u00c0", "\u00d7", "\u00e9", "\u0660", "\u2003", "\u20ac", "\ud7ff", "\ue000", "\ufffd", "\U00010000", "\U0001f600", "\U0010fffd",
	}
	for _, source := range []string{
		".", `\d`, `\s`, `\w`, `\.`, `\*`, `\\`, `\^`, `\$`, `\|`, "a", "-", "\n", "\u00e9", "\U0001f600",
		"[a]", "[^a]", "[a-b]", "[^a-b]", "[^\n]", "[\n]", "[.]", "[^.]", `[\-]`, `[\]]`, `[\\]`, `[\^]`, `[^\^]`, "[*-,]", "[ -~]", "[^ -~]", "[0-9A-Za-z_]", "[zyab]", "[\u00c0-\u00e9]", "[\ud7ff-\ue000]", "[\t-\U0010fffd]", "[^\t-\U0010fffd]", "[\u20ac-\U0001f600]", "[^\ufffd-\U00010000]",
	} {
		if !onAll(t, source, texts) {
			t.Errorf("%q is no pattern", source)
		}
	}
}

func TestRandomPatternsOnRandomTexts(t *testing.T) {
	r := rand.New(rand.NewSource(2121))
	good := 0
	for range 12000 {
		var texts []string
		for range 4 {
			var text []rune
			for range r.Intn(8) {
				text = append(text, []rune("aabbc_ \n-.\u00e9\U0001f600XY+,09")[r.Intn(18)])
			}
			texts = append(texts, string(text))
		}
		if onAll(t, randomPattern(r, 3), texts) {
			good++
		}
	}
	if good < 5000 {
		t.Errorf("only %d of these sources are patterns", good)
	}
}

// Find's places: all that the text has, and no others; and the errors in their order.
func TestPlacesOfFind(t *testing.T) {
	p := compiled(t, `a*|\b`)
	for _, c := range []struct {
		text string
		from int
		want api.Range
		e    api.Errno
	}{
		{"\u20acaa", 0, api.Range{}, api.OK}, {"\u20acaa", 1, api.Range{Lo: 1, Hi: 3}, api.OK}, {"\u20acaa", 3, api.Range{Lo: 3, Hi: 3}, api.OK},
		{"\u20acaa", 4, api.Range{}, api.ErrPlace}, {"\u20acaa", 5, api.Range{}, api.ErrPlace}, {"\u20acaa", -1, api.Range{}, api.ErrPlace}, {"\u20acaa", math.MinInt, api.Range{}, api.ErrPlace}, {"\u20acaa", math.MaxInt, api.Range{}, api.ErrPlace}, {"\u20acaa", 1 << 32, api.Range{}, api.ErrPlace},
		{"", 0, api.Range{}, api.OK}, {"", 1, api.Range{}, api.ErrPlace}, {"", -1, api.Range{}, api.ErrPlace}, {"", math.MinInt, api.Range{}, api.ErrPlace}, {"", math.MaxInt, api.Range{}, api.ErrPlace},
		{"a\xff", 0, api.Range{}, api.ErrUtf8}, {"a\xff", -1, api.Range{}, api.ErrUtf8}, {"a\xff", 9, api.Range{}, api.ErrUtf8}, {"a\x00", math.MaxInt, api.Range{}, api.ErrRune},
	} {
		if got, e := p.Find(c.text, c.from); got != c.want || e != c.e {
			t.Errorf("P21.6: Find on %q from %d = %v, %v, want %v, %v", c.text, c.from, got, e, c.want, c.e)
		}
	}
	nothing := compiled(t, "z")
	for from, want := range map[int]api.Errno{0: api.ErrUnknown, 3: api.ErrUnknown, 4: api.ErrPlace, -1: api.ErrPlace} {
		if got, e := nothing.Find("abc", from); got != (api.Range{}) || e != want {
			t.Errorf("P21.6: Find of nothing from %d = %v, %v, want %v", from, got, e, want)
		}
	}
}

func TestWhatIsNoText(t *testing.T) {
	for _, source := range []string{"a", "a*", "^", "[^a]"} {
		p := compiled(t, source)
		for text, want := range map[string]api.Errno{
			"\xff": api.ErrUtf8, "a\xc3": api.ErrUtf8, "a\xed\xa0\x80": api.ErrUtf8, "\xff\x00": api.ErrUtf8, "\x00\xff": api.ErrRune, "a\r": api.ErrRune, "\ufeff": api.ErrRune, "\U0010ffff": api.ErrRune,
		} {
			if got, e := p.Match(text); got || e != want {
				t.Errorf("P21.5: Match on %q = %v, %v, want %v", text, got, e, want)
			}
			if got, e := p.Find(text, 0); got != (api.Range{}) || e != want {
				t.Errorf("P21.6: Find on %q = %v, %v, want %v", text, got, e, want)
			}
			if got, e := p.All(text); len(got) != 0 || e != want {
				t.Errorf("P21.7: All on %q = %v, %v, want %v", text, got, e, want)
			}
		}
	}
}
