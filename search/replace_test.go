package search_test

import (
	"math/rand"
	"slices"
	"strings"
	"testing"

	"redraft/api"
	"redraft/utext"
)

// wantFill: with as it stands in a match's place; not ok: a \ in it stands where none may.
func wantFill(with, match string) (string, bool) {
	s := ""
	runes := []rune(with)
	for i := 0; i < len(runes); i++ {
		switch {
		case runes[i] == '&':
			s += match
		case runes[i] != '\\':
			s += string(runes[i])
		case isOneOf(`&\`, runes, i+1):
			i++
			s += string(runes[i])
		default:
			return "", false
		}
	}
	return s, true
}

// holdReplace holds Replace and Plan of a pattern against the matches that cutting finds.
func holdReplace(t *testing.T, source, text, with string) {
	t.Helper()
	p, tree := hold(t, source)
	if p == nil {
		return
	}
	s := subjectOf(text)
	all := s.all(tree, 0)
	want, done := "", 0
	var plan []api.Splice
	_, good := wantFill(with, "")
	for _, m := range all {
		old := string(s.text[m.Lo:m.Hi])
		now, _ := wantFill(with, old)
		want += string(s.text[done:m.Lo]) + now
		done = m.Hi
		if now != old {
			plan = append([]api.Splice{{At: m.Lo, Del: m.Hi - m.Lo, Ins: now}}, plan...)
		}
	}
	want += string(s.text[done:])
	got, n, e := p.Replace(text, with)
	list, e2 := p.Plan(text, with)
	if !good {
		if got != "" || n != 0 || e != api.ErrPattern || len(list) != 0 || e2 != api.ErrPattern {
			t.Fatalf("P21.8, P21.9: Replace and Plan of %q on %q with %q = %q, %d, %v; %v, %v", source, text, with, got, n, e, list, e2)
		}
		return
	}
	if got != want || n != len(all) || e != api.OK {
		t.Fatalf("P21.8: Replace of %q on %q with %q = %q, %d, %v, want %q, %d", source, text, with, got, n, e, want, len(all))
	}
	if !slices.Equal(list, plan) || e2 != api.OK {
		t.Fatalf("P21.9: Plan of %q on %q with %q = %v, %v, want %v", source, text, with, list, e2, plan)
	}
	holdPlan(t, text, got, list)
}

// holdPlan: P21.12: the splices of a plan make of the text what it was replaced by.
func holdPlan(t *testing.T, text, want string, plan []api.Splice) {
	t.Helper()
	for _, x := range plan {
		var e api.Errno
		if text, e = utext.Splice(text, x.At, x.Del, x.Ins); e != api.OK {
			t.Fatalf("P21.12: a splice %v of a plan: %v", x, e)
		}
	}
	if text != want {
		t.Fatalf("P21.12: the plan gives %q, Replace %q", text, want)
	}
}

func TestReplaceOnAllSmallTexts(t *testing.T) {
	for _, source := range []string{"a", "a*", "a+", "ab|b", "^", "$", `\b`, "^.*$", "(a|b)*b", "[^a]", ".", "b?", "\n", "(ab)*"} {
		for _, with := range []string{"", "&", "x", "&&", "a", "ab", `\&`, `\\`, `<&>`, `\\&`, `\&&`, `&\\`, `\\\&`, "\n", `\`, `&\`, `\\\`, `a\a`, `\n&`, `\ &`, "\u20ac&\u00e9"} {
			for _, text := range textsOf("ab\n", 4) {
				holdReplace(t, source, text, with)
			}
		}
	}
}

func TestReplaceWithAllShort(t *testing.T) {
	eachOf(`&\a-`, 5, func(with string) {
		holdReplace(t, "a*", "baa&a", with)
		holdReplace(t, "z", "baa", with)
	})
}

func TestRandomReplace(t *testing.T) {
	r := rand.New(rand.NewSource(218))
	for range 20000 {
		var text, with []rune
		for range r.Intn(9) {
			text = append(text, []rune("aabbc_ \n\u00e9\U0001f600")[r.Intn(10)])
		}
		for range r.Intn(5) {
			with = append(with, []rune("&&&ab\n\u00e9\U0001f600\\")[r.Intn(9)])
		}
		holdReplace(t, randomPattern(r, 2), string(text), string(with))
	}
}

// Each error with each other one, in the order in which they are named.
func TestErrorsOfReplace(t *testing.T) {
	type given struct {
		s string
		e api.Errno
	}
	texts := []given{{"foo", api.OK}, {"", api.OK}, {"fo\xff", api.ErrUtf8}, {"\x00\xff", api.ErrRune}, {"o\xc3\x00", api.ErrUtf8}}
	withs := []given{{"x&", api.OK}, {"", api.OK}, {"\xff", api.ErrUtf8}, {"&\x7f", api.ErrRune}, {`\`, api.ErrPattern}, {`&\`, api.ErrPattern}, {`\x`, api.ErrPattern}, {`\\\`, api.ErrPattern}, {"\\\n", api.ErrPattern}, {"\\\u20ac", api.ErrPattern}, {"\\\xff", api.ErrUtf8}, {"\\\x00", api.ErrRune}, {`\q` + "\x00", api.ErrRune}}
	for _, source := range []string{"o", "z", "^", "o*"} {
		p := compiled(t, source)
		for _, text := range texts {
			for _, with := range withs {
				want := text.e
				if want == api.OK {
					want = with.e
				}
				got, n, e := p.Replace(text.s, with.s)
				if e != want || e != api.OK && (got != "" || n != 0) {
					t.Errorf("P21.8: Replace of %q on %q with %q = %q, %d, %v, want %v", source, text.s, with.s, got, n, e, want)
				}
				plan, e := p.Plan(text.s, with.s)
				if e != want || e != api.OK && len(plan) != 0 {
					t.Errorf("P21.9: Plan of %q on %q with %q = %v, %v, want %v", source, text.s, with.s, plan, e, want)
				}
			}
		}
	}
}

// A plan: the last match first; what would put a match's own runes in its place is left out, the others are not.
func TestPlans(t *testing.T) {
	for _, c := range []struct {
		source, text, with string
		n                  int
		want               []api.Splice
	}{
		{"[abc]", "abcab", "b", 5, []api.Splice{{At: 3, Del: 1, Ins: "b"}, {At: 2, Del: 1, Ins: "b"}, {At: 0, Del: 1, Ins: "b"}}},
		{"a*", "ba", "", 2, []api.Splice{{At: 1, Del: 1}}},
		{"a*", "bab", "&", 3, nil},
		{"b*", "ab", `\&`, 2, []api.Splice{{At: 1, Del: 1, Ins: "&"}, {At: 0, Ins: "&"}}},
		{"&", "a&b", `\&`, 1, nil},
		{`\\`, `a\b`, `\\`, 1, nil},
		{`\\`, `a\b`, `\\\\`, 1, []api.Splice{{At: 1, Del: 1, Ins: `\\`}}},
		{"\u20ac+", "\u20ac\u20aca\u20ac", "\u20ac", 2, []api.Splice{{At: 0, Del: 2, Ins: "\u20ac"}}},
		{"^", "a\nb", "> ", 2, []api.Splice{{At: 2, Ins: "> "}, {At: 0, Ins: "> "}}},
		{"x", "abc", "y", 0, nil},
	} {
		p := compiled(t, c.source)
		plan, e := p.Plan(c.text, c.with)
		if !slices.Equal(plan, c.want) || e != api.OK {
			t.Errorf("P21.9: Plan of %q on %q with %q = %v, %v, want %v", c.source, c.text, c.with, plan, e, c.want)
		}
		now, n, e := p.Replace(c.text, c.with)
		if n != c.n || e != api.OK {
			t.Errorf("P21.8: Replace of %q on %q with %q: %d matches, %v, want %d", c.source, c.text, c.with, n, e, c.n)
		}
		holdPlan(t, c.text, now, plan)
	}
	if got, n, e := compiled(t, ".").Replace(strings.Repeat("a", 1000), strings.Repeat("&", 1000)); got != strings.Repeat("a", 1000000) || n != 1000 || e != api.OK {
		t.Errorf("P21.8: a thousand matches a thousand times: %d bytes, %d, %v", len(got), n, e)
	}
}
