package op_test

import (
	"math/big"
	"math/rand"
	"regexp"
	"strings"
	"testing"

	"redraft/api"
	"redraft/op"
	"redraft/utext"
)

// O8, O9: lines as the chapter's table says them, there and back.
func TestLines(t *testing.T) {
	for _, c := range []struct {
		o    api.Op
		line string
	}{
		{ins(3, 17, 12, "a\u00e9"), `3.17 ins 12 "a\u{e9}"`}, {ins(0, 0, 0, "-"), `- ins 0 "-"`}, {ins(8, 1024, end-1, "\""), `8.1024 ins 1048575 "\""`}, {ins(1, 10, 100, " \\\n\t"), `1.10 ins 100 " \\\n\t"`}, {ins(1, 1, 0, "x\" on 1.1"), `1.1 ins 0 "x\" on 1.1"`},
		{show(0, 0, 2, 5, 9, 10), `- show 2-5,9-10`}, {show(1, 2, 0, 1), `1.2 show 0-1`}, {hide(8, 1024, 0, end), `8.1024 hide 0-1048576`}, {hide(0, 0, 10, 20, 21, 30, 100, 200), `- hide 10-20,21-30,100-200`},
		{status(2, 8, 3, 17, false), `2.8 off 3.17`}, {status(2, 8, 3, 17, true), `2.8 on 3.17`}, {status(0, 0, 8, 1024, true), `- on 8.1024`}, {status(0, 0, 1, 1, false), `- off 1.1`},
	} {
		if s, e := op.Print(c.o); s != c.line || e != api.OK {
			t.Errorf("O8: Print(%v) = %q, %d, want %q", c.o, s, e, c.line)
		}
		if o, e := op.Parse(c.line); !same(o, c.o) || e != api.OK {
			t.Errorf("O9: Parse(%q) = %v, %d, want %v", c.line, o, e, c.o)
		}
	}
}

// O8: an operation's own error, and no line then; O9: Parse of Print of the rest.
func TestParseOfPrint(t *testing.T) {
	many := api.Op{Head: head(1, 1, api.Hide), Ranges: teeth(end-2*api.MaxRanges, api.MaxRanges)}
	for _, o := range append(append(rightOps(), many), wrongOps()...) {
		s, e := op.Print(o)
		if want := wantOwn(o); e != want || (e != api.OK) != (s == "") {
			t.Errorf("O8: Print(%.99v) = %.99q, %d, want %d", o, s, e, want)
		}
		if e != api.OK {
			continue
		}
		if back, e := op.Parse(s); !same(back, o) || e != api.OK {
			t.Errorf("O9: Parse(%.99q) = %.99v, %d, want %.99v", s, back, e, o)
		}
	}
	for _, o := range []api.Op{ins(1, 1, 0, "a"), status(1, 2, 1, 1, true)} {
		o.Ranges = []api.Range{}
		if s, e := op.Print(o); s == "" || e != api.OK {
			t.Errorf("O8: Print(%v) with a list without elements = %q, %d", o, s, e)
		}
	}
}

func refused(t *testing.T, s string) {
	t.Helper()
	if o, e := op.Parse(s); e != api.ErrSyntax || !same(o, api.Op{}) {
		t.Errorf("O9: Parse(%.99q) = %.99v, %d, want ErrSyntax", s, o, e)
	}
}

// O9: lines that Print never gives.
func TestParseRefused(t *testing.T) {
	huge := "99999999999999999999999999"
	wrapped := "18446744073709551617" // 1, if it wrapped round
	for _, s := range []string{
		"", " ", "-", "- ", "1.1", "1.1 ", "\n", "\x00", "\xff",
		"1.1 ins 00 \"a\"", "1.1 ins 01 \"a\"", "01.1 on 1.2", "1.01 on 1.2", "1.1 on 01.2", "1.1 on 1.02", "1.1 hide 01-2", "1.1 hide 1-02", "1.1 hide 00-2", "1.1 hide 1-2,04-5",
		" 1.1 on 1.2", "1.1  on 1.2", "1.1 on  1.2", "1.1 on 1.2 ", "1.1\ton 1.2", "1.1 on\t1.2", "1.1 on 1.2\n", "1.1 on 1.2\r\n", "1.1\u00a0on 1.2", "1.1 ins  0 \"a\"", "1.1 ins 0  \"a\"", "1.1 ins 0\t\"a\"", "1.1 ins 0 \"a\" ", "1.1 ins 0 \"a\"\n", "1.1 hide 1-2, 4-5", "1.1 hide 1 - 2", "1 .1 on 1.2",
		"1.1 hide 1-2,2-3", "1.1 hide 1-3,2-4", "1.1 hide 4-5,1-2", "1.1 hide 1-1", "1.1 hide 2-1", "1.1 hide 0-1048577", "1.1 hide 1048576-1048577", "1.1 hide 1-2,1-2",
		"1.1 hide", "1.1 hide ", "1.1 hide 1", "1.1 hide 1-", "1.1 hide -1", "1.1 hide -1-2", "1.1 hide 1--2", "1.1 hide 1-2-3", "1.1 hide 1-2,", "1.1 hide ,1-2", "1.1 hide 1-2,,4-5", "1.1 hide 1-2;4-5", "1.1 hide 1-2 4-5", "1.1 hide 1-2,4", "1.1 show", "1.1 show -",
		"1.1 ins " + huge + " \"a\"", "1.1 ins " + wrapped + " \"a\"", "1.1 hide 1-" + huge, "1.1 hide 0-" + wrapped, huge + ".1 on 1.2", wrapped + ".1 on 1.2", "1." + wrapped + " on 1.2", "1.2 on 1." + wrapped, "1.2 on " + huge + "." + huge,
		"1.1 ins +1 \"a\"", "1.1 ins -1 \"a\"", "1.1 ins -0 \"a\"", "1.1 ins 1e1 \"a\"", "1.1 ins 0x1 \"a\"", "1.1 ins 1_0 \"a\"", "1.1 ins 1. \"a\"", "1.1 ins \u0661 \"a\"", "+1.1 on 1.2", "1.+1 on 1.2", "1.1 hide +1-2", "1.1 hide 1-+2",
		"1.1 ins 1048576 \"a\"", "1.1 ins 1048575 \"ab\"", "1.1 ins 1048577 \"a\"", "1.1 ins 0 \"" + strings.Repeat("a", 257) + "\"",
		"1.1 in 0 \"a\"", "1.1 inst 0 \"a\"", "1.1 Ins 0 \"a\"", "1.1 i", "1.1 hid 1-2", "1.1 hides 1-2", "1.1 sho 1-2", "1.1 o 1.2", "1.1 of 1.2", "1.1 offf 1.2", "1.1 ON 1.2", "1.1 status 1.2", "1.1 1.2", "1.1 on", "1.1 on ", "1.1 ins", "1.1 ins ", "1.1 ins 0", "1.1 ins 0 ", "1.1 ins \"a\"",
		"1.1 ins 0 \"\"", "1.1 ins 0 a", "1.1 ins 0 \"a", "1.1 ins 0 a\"", "1.1 ins 0 \"", "1.1 ins 0 'a'", "1.1 ins 0 \"a\"b", "1.1 ins 0 \"a\"\"b\"", "1.1 ins 0 \"\\x61\"", "1.1 ins 0 \"\\u{61}\"", "1.1 ins 0 \"\\u{E9}\"", "1.1 ins 0 \"\u00e9\"", "1.1 ins 0 \"\\xff\"", "1.1 ins 0 \"\\u{0}\"", "1.1 ins 0 \"a\nb\"", "1.1 ins 0 \"a\\\"",
		"2.8 off 2.8", "2.8 on 2.8", "0.1 on 1.1", "1.0 on 1.1", "0.0 on 1.1", "9.1 on 1.1", "1.1025 on 1.1", "-1.1 on 1.2", "1.-1 on 1.2", "1 on 1.2", "1. on 1.2", ".1 on 1.2", ". on 1.2", "1.1.1 on 1.2", "-- on 1.2", "-.- on 1.2", "1,1 on 1.2",
		"1.1 on -", "- on -", "1.1 on 0.0", "1.1 on 0.1", "1.1 on 9.1", "1.1 on 1.1025", "1.1 on 1", "1.1 on 1.2.3", "1.1 on 1.2 1.3", "1.1 on 1.2x", "on 1.2",
	} {
		refused(t, s)
	}
}

// O9: a line with more ranges than a list may have, and far more.
func TestParseMany(t *testing.T) {
	s, _ := op.Print(api.Op{Head: head(1, 1, api.Hide), Ranges: teeth(0, api.MaxRanges)})
	if _, e := op.Parse(s); e != api.OK {
		t.Errorf("O9: a line of MaxRanges ranges = %d", e)
	}
	refused(t, s+",100000-100001")
	refused(t, s+strings.Repeat(",1-2", 1<<20))
	refused(t, "1.1 hide "+strings.Repeat(",", 1<<20))
	refused(t, "1.1 hide "+strings.Repeat("1", 1<<20)+"-2")
}

// The oracle of Parse: the shape of a line as one expression, and what its numbers must be.
const (
	numberShape = `(?:0|[1-9][0-9]*)`
	idShape     = `(-|[1-9][0-9]*\.[1-9][0-9]*)`
	rangesShape = `((?:` + numberShape + `-` + numberShape + `,)*` + numberShape + `-` + numberShape + `)`
)

var lineShape = regexp.MustCompile(`^` + idShape + ` (?:ins (` + numberShape + `) (".*")|(hide|show) ` + rangesShape + `|(on|off) ` + idShape + `)$`)

func numberOf(s string) int {
	n, _ := new(big.Int).SetString(s, 10)
	if n.Cmp(big.NewInt(1<<40)) > 0 {
		return 1 << 40
	}
	return int(n.Int64())
}

func idOf(s string) api.ID {
	if s == "-" {
		return api.ID{}
	}
	c, n, _ := strings.Cut(s, ".")
	return api.ID{numberOf(c), numberOf(n)}
}

// wantParse: the operation of a line, if it is one.
func wantParse(s string) (o api.Op, ok bool) {
	m := lineShape.FindStringSubmatch(s)
	if m == nil {
		return api.Op{}, false
	}
	o.ID = idOf(m[1])
	switch {
	case m[2] != "":
		text, n, e := utext.Unquote(m[3])
		if e != api.OK || n != len(m[3]) {
			return api.Op{}, false
		}
		o.Kind, o.At, o.Text = api.Ins, numberOf(m[2]), text
	case m[4] != "":
		o.Kind = map[string]api.Kind{"hide": api.Hide, "show": api.Show}[m[4]]
		for _, part := range strings.Split(m[5], ",") {
			lo, hi, _ := strings.Cut(part, "-")
			o.Ranges = append(o.Ranges, api.Range{Lo: numberOf(lo), Hi: numberOf(hi)})
		}
	default:
		o.Kind, o.Target, o.On = api.Status, idOf(m[7]), m[6] == "on"
	}
	return o, wantOwn(o) == api.OK
}

func sameParse(t *testing.T, s string) {
	t.Helper()
	want, ok := wantParse(s)
	if !ok {
		refused(t, s)
		return
	}
	if o, e := op.Parse(s); !same(o, want) || e != api.OK {
		t.Errorf("O9: Parse(%.99q) = %.99v, %d, want %.99v", s, o, e, want)
	}
	if back, e := op.Print(want); back != s || e != api.OK {
		t.Errorf("O8: Print(%.99v) = %.99q, %d, want %.99q", want, back, e, s)
	}
}

// O8, O9: lines with one byte taken out, changed or put in, and cut short at each byte.
func TestParseNearLines(t *testing.T) {
	const bytes = " -.,\"\\0123459ainsfhdeowx\n\t\x00\xff+_"
	for _, o := range rightOps() {
		s, _ := op.Print(o)
		if len(s) > 80 {
			continue
		}
		for i := range len(s) + 1 {
			sameParse(t, s[:i])
			sameParse(t, s[i:])
			for _, b := range []byte(bytes) {
				sameParse(t, s[:i]+string([]byte{b})+s[i:])
				if i < len(s) {
					sameParse(t, s[:i]+s[i+1:])
					sameParse(t, s[:i]+string([]byte{b})+s[i+1:])
				}
			}
		}
	}
}

// O8, O9: lines put together at random of what lines are made of.
func TestParseMixedLines(t *testing.T) {
	parts := []string{"-", "1.1", "8.1024", "9.1", "0.1", " ", " ", " ", " ", "ins", "hide", "show", "on", "off", "0", "7", "1048575", "1048576", "0-1", "2-5", "5-6", "7-1048576", ",", "\"a\"", "\"\\u{e9}\"", "\"\"", "\"b"}
	rnd := rand.New(rand.NewSource(9))
	right := 0
	for range 200000 {
		var b strings.Builder
		b.WriteString([]string{"-", "1.1", "8.1024"}[rnd.Intn(3)] + " " + []string{"ins", "hide", "show", "on", "off"}[rnd.Intn(5)] + " ")
		for range 1 + rnd.Intn(4) {
			b.WriteString(parts[rnd.Intn(len(parts))])
		}
		if _, ok := wantParse(b.String()); ok {
			right++
		}
		sameParse(t, b.String())
	}
	if right < 1000 {
		t.Errorf("only %d of the lines are right", right)
	}
}
