package search_test

import (
	"math/rand"
	"strings"
	"testing"

	"redraft/api"
	"redraft/search"
)

// hold holds Compile and Print of a source against the tests' own reading, and answers the pattern of both, if it is one.
func hold(t *testing.T, source string) (*search.Pattern, pattern) {
	t.Helper()
	tree, at, e := wantCompile(source)
	p, gotAt, gotE := search.Compile(source)
	if (p != nil) != (e == api.OK) || gotAt != at || gotE != e {
		t.Fatalf("P21.2: Compile(%q) = %v, %d, %v, want %d, %v", source, p != nil, gotAt, gotE, at, e)
	}
	if p == nil {
		return nil, nil
	}
	one := wantPrint(tree)
	if got := p.Print(); got != one {
		t.Fatalf("P21.3: Compile(%q) is printed as %q, want %q", source, got, one)
	}
	again, at, e := search.Compile(one)
	if again == nil || at != 0 || e != api.OK {
		t.Fatalf("P21.11: Compile(%q) = %v, %d, %v: it is the print of %q", one, again != nil, at, e, source)
	}
	if got := again.Print(); got != one {
		t.Fatalf("P21.11: %q is printed as %q", one, got)
	}
	return p, tree
}

// eachOf: all strings of up to so many of the runes of an alphabet.
func eachOf(alphabet string, most int, f func(string)) {
	var grow func(s string, left int)
	grow = func(s string, left int) {
		f(s)
		if left == 0 {
			return
		}
		for _, r := range alphabet {
			grow(s+string(r), left-1)
		}
	}
	grow("", most)
}

func TestAllShortSources(t *testing.T) {
	for _, c := range []struct {
		alphabet string
		most     int
	}{
		{"ab()|*", 6}, {"a()|*+?]", 5}, {`a^$\b(*+|)`, 5}, {`[]^-\abc`, 6}, {`[a-]()*\d.`, 5}, {special + `dswbaeA1_-`, 3},
	} {
		most := c.most
		if testing.Short() {
			most--
		}
		eachOf(c.alphabet, most, func(source string) { hold(t, source) })
	}
}

// sources: random ones, of which many are patterns, and those with a rune taken out, put in, or turned.
func sources(r *rand.Rand) string {
	s := randomPattern(r, 4)
	runes := []rune(s)
	alphabet := []rune(special + "dswbaz09_-\n\u00e9\u20ac\U0001f600")
	other := alphabet[r.Intn(len(alphabet))]
	at := r.Intn(len(runes))
	switch r.Intn(6) {
	case 0:
		return string(runes[:at]) + string(runes[at+1:])
	case 1:
		return string(runes[:at]) + string(other) + string(runes[at:])
	case 2:
		runes[at] = other
	case 3:
		return string(runes[:at])
	}
	return string(runes)
}

// randomPattern: groups nested up to deep; a mark may stand where none may.
func randomPattern(r *rand.Rand, deep int) string {
	s := ""
	for range 1 + r.Intn(3) {
		if s != "" && r.Intn(3) == 0 {
			s += "|"
		}
		if deep > 0 && r.Intn(3) == 0 {
			s += "(" + randomPattern(r, deep-1) + ")"
		} else {
			s += randomAtom(r)
		}
		if r.Intn(3) == 0 {
			s += string("*+?"[r.Intn(3)])
		}
	}
	return s
}

func randomAtom(r *rand.Rand) string {
	plain := []string{"a", "b", "c", "_", " ", "\n", "-", ".", `\d`, `\s`, `\w`, "\u00e9", "\U0001f600", `\.`, `\\`, `\|`}
	switch r.Intn(12) {
	case 0:
		return []string{"^", "$", `\b`}[r.Intn(3)]
	case 1, 2, 3:
		return randomClass(r)
	}
	return plain[r.Intn(len(plain))]
}

func randomClass(r *rand.Rand) string {
	s := "["
	if r.Intn(4) == 0 {
		s += "^"
	}
	half := func(c rune) string { return behindSign(c, `[]\-^`) }
	for range 1 + r.Intn(4) {
		lo := rune(r.Intn(8)) + []rune{'+', 'X', 'a', 0xe8}[r.Intn(4)]
		hi := lo + rune(r.Intn(4))
		s += half(lo)
		if r.Intn(2) == 0 {
			s += "-" + half(hi)
		}
	}
	return s + "]"
}

func TestRandomSources(t *testing.T) {
	r := rand.New(rand.NewSource(21))
	good := 0
	for range 60000 {
		if p, _ := hold(t, sources(r)); p != nil {
			good++
		}
	}
	if good < 20000 {
		t.Errorf("only %d of these sources are patterns", good)
	}
}

// Each fault that the chapter names, by itself, at its place.
func TestFaultsByName(t *testing.T) {
	for _, c := range []struct {
		what, source string
		at           int
		e            api.Errno
	}{
		{"an atom is wanted: at the beginning: the end", "", 0, api.ErrPattern},
		{"an atom is wanted: at the beginning", "|a", 0, api.ErrPattern},
		{"an atom is wanted: at the beginning", ")a", 0, api.ErrPattern},
		{"an atom is wanted: at the beginning", "*a", 0, api.ErrPattern},
		{"an atom is wanted: at the beginning", "+a", 0, api.ErrPattern},
		{"an atom is wanted: at the beginning", "?a", 0, api.ErrPattern},
		{"an atom is wanted: at the beginning", "]a", 0, api.ErrPattern},
		{"an atom is wanted: behind a (: the end", "x(", 2, api.ErrPattern},
		{"an atom is wanted: behind a (", "x(|", 2, api.ErrPattern},
		{"an atom is wanted: behind a (", "x()", 2, api.ErrPattern},
		{"an atom is wanted: behind a (", "x(*", 2, api.ErrPattern},
		{"an atom is wanted: behind a (", "x(+", 2, api.ErrPattern},
		{"an atom is wanted: behind a (", "x(?", 2, api.ErrPattern},
		{"an atom is wanted: behind a (", "x(]", 2, api.ErrPattern},
		{"an atom is wanted: behind a |: the end", "x|", 2, api.ErrPattern},
		{"an atom is wanted: behind a |", "x||", 2, api.ErrPattern},
		{"an atom is wanted: behind a |", "(x|)", 3, api.ErrPattern},
		{"an atom is wanted: behind a |", "x|*", 2, api.ErrPattern},
		{"an atom is wanted: behind a |", "x|+", 2, api.ErrPattern},
		{"an atom is wanted: behind a |", "x|?", 2, api.ErrPattern},
		{"an atom is wanted: behind a |", "x|]", 2, api.ErrPattern},
		{"behind a piece: no group is open", "x)", 1, api.ErrPattern},
		{"behind a piece: no group is open any more", "(x))", 3, api.ErrPattern},
		{"behind a piece: a group is open", "(x", 2, api.ErrPattern},
		{"behind a piece: a group is still open", "((x)", 4, api.ErrPattern},
		{"behind a piece: a ]", "x]", 1, api.ErrPattern},
		{"behind a piece: a ] behind a class", "[x]]", 3, api.ErrPattern},
		{"behind a piece with a mark", "x*]", 2, api.ErrPattern},
		{"behind a mark", "x**", 2, api.ErrPattern},
		{"behind a mark", "x*+", 2, api.ErrPattern},
		{"behind a mark", "x+?", 2, api.ErrPattern},
		{"behind a mark", "x?*", 2, api.ErrPattern},
		{"behind a group's mark", "(x)++", 4, api.ErrPattern},
		{"behind a \\: the end", `xy\`, 3, api.ErrPattern},
		{"behind a \\: another letter", `xy\n`, 3, api.ErrPattern},
		{"behind a \\: a great letter", `xy\D`, 3, api.ErrPattern},
		{"behind a \\: no sign of a pattern", `xy\-`, 3, api.ErrPattern},
		{"behind a \\: a new line", "xy\\\n", 3, api.ErrPattern},
		{"behind a \\: a rune of three bytes", "\u20ac\\\u20ac", 2, api.ErrPattern},
		{"a class: the end behind the [", "x[", 2, api.ErrPattern},
		{"a class: the end behind the ^", "x[^", 3, api.ErrPattern},
		{"a class: the end behind an item", "x[ab", 4, api.ErrPattern},
		{"a class: the end behind an item of two", "x[a-b", 5, api.ErrPattern},
		{"a class: a [ directly behind the [", "[[", 1, api.ErrPattern},
		{"a class: a [ behind an item", "[a[", 2, api.ErrPattern},
		{"a class: a [ behind an item of two", "[a-b[", 4, api.ErrPattern},
		{"a class: a ^ behind the ^", "[^^", 2, api.ErrPattern},
		{"a class: a ^ behind an item", "[a^", 2, api.ErrPattern},
		{"a class: a - directly behind the [", "[-", 1, api.ErrPattern},
		{"a class: a - directly behind the ^", "[^-", 2, api.ErrPattern},
		{"a class: a - behind an item of two", "[a-b-", 4, api.ErrPattern},
		{"a class: a ] directly behind the [", "[]a]", 1, api.ErrPattern},
		{"a class: a ] directly behind the ^", "[^]a]", 2, api.ErrPattern},
		{"a class: behind the -: the end", "[a-", 3, api.ErrPattern},
		{"a class: behind the -: a [", "[a-[", 3, api.ErrPattern},
		{"a class: behind the -: a ]", "[a-]", 3, api.ErrPattern},
		{"a class: behind the -: a ^", "[a-^", 3, api.ErrPattern},
		{"a class: behind the -: a -", "[a--", 3, api.ErrPattern},
		{"a class: behind a \\: the end", `[\`, 2, api.ErrPattern},
		{"a class: behind a \\: a letter", `[\d]`, 2, api.ErrPattern},
		{"a class: behind a \\: no sign of a class", `[\.]`, 2, api.ErrPattern},
		{"a class: behind a - and a \\: the end", `[a-\`, 4, api.ErrPattern},
		{"a class: behind a - and a \\: a letter", `[a-\z]`, 4, api.ErrPattern},
		{"a class: the first is greater", "[b-a]", 3, api.ErrPattern},
		{"a class: the first is greater, the second has a \\", `[a-\^]`, 3, api.ErrPattern},
		{"a class: the first is greater, though its bytes are fewer", "[\uffe0-\U0001f600\U0001f600-\uffe0]", 6, api.ErrPattern},
		{"a mark behind what is hollow", "^*", 1, api.ErrRepeat},
		{"a mark behind what is hollow", "$+", 1, api.ErrRepeat},
		{"a mark behind what is hollow", `\b?`, 2, api.ErrRepeat},
		{"a mark behind what is hollow", "(a*)?", 4, api.ErrRepeat},
		{"a mark behind what is hollow", "(a?)*", 4, api.ErrRepeat},
		{"a mark behind what is hollow", "(a?b*^)+", 7, api.ErrRepeat},
		{"a mark behind what is hollow", "(a|b*|c)+", 8, api.ErrRepeat},
		{"a mark behind what is hollow", "((a|(b*)))+", 10, api.ErrRepeat},
		{"a mark behind what is hollow", "((a*)(^$))*", 10, api.ErrRepeat},
	} {
		if p, at, e := search.Compile(c.source); p != nil || at != c.at || e != c.e {
			t.Errorf("P21.2: %s: Compile(%q) = %v, %d, %v, want %d, %v", c.what, c.source, p != nil, at, e, c.at, c.e)
		}
		hold(t, c.source)
	}
	for _, source := range []string{"(a*b)*", "(a|^b)+", "(a+)+", "((a+)+)?", "[*]*", `\**`, "[^^]", "-", "a-b", "(a)(b)", "[a-a]"} {
		if _, at, e := search.Compile(source); (e != api.OK) != (source == "[^^]") {
			t.Errorf("P21.2: Compile(%q): %d, %v", source, at, e)
		}
	}
}

// Of two faults the first one counts, whatever the second is.
func TestTwoFaults(t *testing.T) {
	faults := []struct {
		source string
		at     int
		e      api.Errno
	}{
		{"*", 0, api.ErrPattern}, {"a**", 2, api.ErrPattern}, {"a]", 1, api.ErrPattern}, {"()", 1, api.ErrPattern}, {"^*", 1, api.ErrRepeat}, {"(a?)+", 4, api.ErrRepeat},
		{`\q`, 1, api.ErrPattern}, {"[]", 1, api.ErrPattern}, {"[b-a]", 3, api.ErrPattern}, {"[a-]", 3, api.ErrPattern}, {`[\x]`, 2, api.ErrPattern}, {"a)", 1, api.ErrPattern}, {"a||", 2, api.ErrPattern},
	}
	for _, a := range faults {
		for _, b := range faults {
			for _, between := range []string{"", "x", "|", "x|", "(", ")", "x)"} {
				if _, at, e := search.Compile(a.source + between + b.source); at != a.at || e != a.e {
					t.Errorf("P21.2: Compile(%q): %d, %v, want %d, %v", a.source+between+b.source, at, e, a.at, a.e)
				}
				hold(t, "\u20acx("+b.source+between+a.source)
			}
		}
	}
}

// What is no text is told ahead of all, by runes; then what is too long.
func TestSourcesThatAreNone(t *testing.T) {
	long := strings.Repeat("\u20ac", 256)
	for _, c := range []struct {
		source string
		at     int
		e      api.Errno
	}{
		{"\xff", 0, api.ErrUtf8}, {"\x00", 0, api.ErrRune}, {"\u00e9\u20ac\U0001f600\xc3", 3, api.ErrUtf8}, {"\u00e9\u20ac\U0001f600\r", 3, api.ErrRune},
		{"a\xed\xa0\x80", 1, api.ErrUtf8}, {"a\x7f\xff", 1, api.ErrRune}, {"a\xff\x7f", 1, api.ErrUtf8}, {"\ufffd\ufeff", 1, api.ErrRune}, {"x\U0010ffff", 1, api.ErrRune},
		{"*\xff", 1, api.ErrUtf8}, {"a**\x00", 3, api.ErrRune}, {"[\xff", 1, api.ErrUtf8}, {"(a*)*\x80", 5, api.ErrUtf8},
		{long + "\xff", 256, api.ErrUtf8}, {long + long + "\x00", 512, api.ErrRune}, {"\xff" + long, 0, api.ErrUtf8},
		{long + "a", 256, api.ErrLong}, {long + long, 256, api.ErrLong}, {"*" + long, 256, api.ErrLong}, {long + "*", 256, api.ErrLong}, {strings.Repeat("(", 1000000), 256, api.ErrLong},
		{strings.Repeat("(", 256), 256, api.ErrPattern}, {strings.Repeat("a", 255) + ")", 255, api.ErrPattern}, {strings.Repeat("a", 255) + `\`, 256, api.ErrPattern}, {strings.Repeat("a", 254) + "[b", 256, api.ErrPattern},
	} {
		if p, at, e := search.Compile(c.source); p != nil || at != c.at || e != c.e {
			t.Errorf("P21.2: Compile(%.40q) = %v, %d, %v, want %d, %v", c.source, p != nil, at, e, c.at, c.e)
		}
	}
	for _, source := range []string{long, strings.Repeat("(", 127) + "ab" + strings.Repeat(")", 127), strings.Repeat("a?", 128), "[" + strings.Repeat("z", 254) + "]", strings.Repeat("a|", 127) + "bc"} {
		if p, _ := hold(t, source); p == nil {
			t.Errorf("P21.2: %.40q of 256 runes is no pattern", source)
		}
	}
}
