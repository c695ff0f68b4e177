package search_test

import (
	"strings"
	"testing"
)

// holdPrint: a source and its one form.
func holdPrint(t *testing.T, source, want string) {
	t.Helper()
	if got := compiled(t, source).Print(); got != want {
		t.Errorf("P21.3: %s is printed as %s, want %s", source, got, want)
	}
	hold(t, source)
}

func TestPrintOfGroups(t *testing.T) {
	for _, c := range [][2]string{
		{"(a)", "a"}, {"((((a))))", "a"}, {"(ab)", "ab"}, {"(ab)(cd)", "abcd"}, {"a(b(c(d)e)f)g", "abcdefg"}, {"(a*)(b+)c?", "a*b+c?"}, {"((a*)b)", "a*b"},
		{"(a|b)", "a|b"}, {"((a|b))", "a|b"}, {"(a|b)|c", "a|b|c"}, {"c|(a|b)", "c|a|b"}, {"a|(b|(c|(d|e)))", "a|b|c|d|e"}, {"(((a|b)|c)|d)", "a|b|c|d"}, {"x(a|(b|c))", "x(a|b|c)"},
		{"(a|b)c", "(a|b)c"}, {"((a|b)c)", "(a|b)c"}, {"((a|b))c", "(a|b)c"}, {"(((a|b)))(c)", "(a|b)c"}, {"(a|b)(c|d)", "(a|b)(c|d)"}, {"((a|b)(c|d))|e", "(a|b)(c|d)|e"}, {"(a|bc)|(d(e|f))", "a|bc|d(e|f)"},
		{"(a)*", "a*"}, {"((a))+", "a+"}, {"(((a)))?", "a?"}, {"(ab)*", "(ab)*"}, {"((ab))*", "(ab)*"}, {"((a)(b))*", "(ab)*"}, {"(a|b)*", "(a|b)*"}, {"((a|b))*", "(a|b)*"}, {"(((a)|((b))))*", "(a|b)*"},
		{"(a+)+", "(a+)+"}, {"((a)+)*", "(a+)*"}, {"((a+))*", "(a+)*"}, {"(((a+)+)+)?", "(((a+)+)+)?"}, {"((ab)+)*", "((ab)+)*"}, {"((a|b)+)*", "((a|b)+)*"}, {"(((a|b))+)*", "((a|b)+)*"},
		{"(a+b)*", "(a+b)*"}, {"(a+|b)*", "(a+|b)*"}, {"(a*b|(c))+", "(a*b|c)+"}, {"((a)b*)+", "(ab*)+"}, {"([a])*", "[a]*"}, {"(.)*(\\d)+", ".*\\d+"}, {"(\\*)*", "\\**"}, {"(^)($)(\\b)", "^$\\b"}, {"(^|a)b", "(^|a)b"},
		{"((a|b)|(c))*", "(a|b|c)*"}, {"(x|(a|b)+)", "x|(a|b)+"}, {"((a|b)+)", "(a|b)+"}, {"((a|b)+|c)", "(a|b)+|c"},
	} {
		holdPrint(t, c[0], c[1])
	}
}

func TestPrintOfRunes(t *testing.T) {
	for _, same := range []string{
		"a", "-", "&", "{}", "a b\tc\nd", "\u00e9\u20ac\U0001f600\ufffd", `\.\[\]\(\)\|\*\+\?\\\^\$`, `\d\s\w\b`, ".^$", `\\d`, "/", `"`, "0", `\d*\s+\w?`, `\.*`, "a.b", "[0-9]", "[a]", "[^a]",
	} {
		holdPrint(t, same, same)
	}
}

func TestPrintOfClasses(t *testing.T) {
	for _, c := range [][2]string{
		{"[a]", "[a]"}, {"[aaa]", "[a]"}, {"[a-a]", "[a]"}, {"[ba]", "[ab]"}, {"[a-b]", "[ab]"}, {"[ac]", "[ac]"}, {"[ca]", "[ac]"}, {"[cab]", "[a-c]"}, {"[a-c]", "[a-c]"}, {"[a-cd]", "[a-d]"},
		{"[da-c]", "[a-d]"}, {"[a-cd-f]", "[a-f]"}, {"[d-fa-c]", "[a-f]"}, {"[a-cb-e]", "[a-e]"}, {"[b-ea-c]", "[a-e]"}, {"[a-zd-f]", "[a-z]"}, {"[d-fa-z]", "[a-z]"}, {"[a-ce-g]", "[a-ce-g]"}, {"[e-ga-c]", "[a-ce-g]"},
		{"[a-bd-e]", "[abde]"}, {"[abd]", "[abd]"}, {"[a-cz0-9_]", "[0-9_a-cz]"}, {"[acegb]", "[a-ceg]"}, {"[gecafdb]", "[a-g]"}, {"[a-db-c]", "[a-d]"}, {"[a-cc-e]", "[a-e]"}, {"[a-fa-b]", "[a-f]"},
		{"[^a]", "[^a]"}, {"[^ba]", "[^ab]"}, {"[^a-cb-d]", "[^a-d]"}, {`[\^a]`, `[\^a]`}, {`[a\^]`, `[\^a]`}, {`[^\^]`, `[^\^]`},
		{`[\]]`, `[\]]`}, {`[\[]`, `[\[]`}, {`[\\]`, `[\\]`}, {`[\-]`, `[\-]`}, {`[\[-\]]`, `[\[-\]]`}, {`[\[\\]`, `[\[\\]`}, {`[\\\]]`, `[\\\]]`}, {`[\[-\^]`, `[\[-\^]`}, {`[Z-\[]`, `[Z\[]`}, {`[Y-\[]`, `[Y-\[]`}, {`[\]-_]`, `[\]-_]`}, {`[\--/]`, `[\--/]`}, {`[+-\-]`, `[+-\-]`}, {`[,-\-]`, `[,\-]`},
		{"[.$*+?()|]", "[$(-+.?|]"}, {"[dswb]", "[bdsw]"}, {"[*]", "[*]"}, {"[|]", "[|]"}, {"[\n\t ]", "[\t\n ]"}, {"[\t-\n]", "[\t\n]"}, {"[\t- ]", "[\t- ]"},
		{"[\u00e8-\u00ea]", "[\u00e8-\u00ea]"}, {"[\u20ac\u00e9]", "[\u00e9\u20ac]"}, {"[\U0001f600\ufffda]", "[a\ufffd\U0001f600]"},
		// Numbers that no text can hold lie between these: they count.
		{"[\ud7ff\ue000]", "[\ud7ff\ue000]"}, {"[\ud7ff-\ue000]", "[\ud7ff-\ue000]"}, {"[~\u00a0]", "[~\u00a0]"}, {"[~-\u00a0]", "[~-\u00a0]"}, {"[\ufffd\U00010000]", "[\ufffd\U00010000]"}, {"[\ufffd-\U00010000]", "[\ufffd-\U00010000]"}, {"[\ufefe\uff00]", "[\ufefe\uff00]"}, {"[\ufefe-\uff00]", "[\ufefe-\uff00]"}, {"[\n-\ufefe\uff00]", "[\n-\ufefe\uff00]"}, {"[\t-\U0010fffd]", "[\t-\U0010fffd]"}, {"[\U000ffffd-\U0010fffd\U0010fffc]", "[\U000ffffd-\U0010fffd]"},
	} {
		holdPrint(t, c[0], c[1])
	}
}

// The deepest groups that there can be, and the most branches.
func TestPrintOfTheGreatest(t *testing.T) {
	deep := func(open, inner, close string) string {
		n := (256 - len(inner)) / (len(open) + len(close))
		return strings.Repeat(open, n) + inner + strings.Repeat(close, n)
	}
	for _, c := range [][2]string{
		{deep("(", "ab", ")"), "ab"}, {deep("(", "a|b", ")"), "a|b"}, {deep("(", "a", ")+"), strings.Repeat("(", 84) + "a+" + strings.Repeat(")+", 84)},
		{deep("(a", "b", ")"), strings.Repeat("a", 85) + "b"}, {deep("(a|", "b", ")"), strings.Repeat("a|", 63) + "b"}, {deep("a(b|", "c", ")"), deep("a(b|", "c", ")")}, {strings.Repeat("a|", 127) + "b", strings.Repeat("a|", 127) + "b"},
	} {
		holdPrint(t, c[0], c[1])
	}
}
