package utext_test

import (
	"strconv"
	"strings"
	"testing"

	"redraft/api"
	"redraft/utext"
)

// wantQuote: Quote, by the chapter's table.
func wantQuote(s string) string {
	out := `"`
	for s != "" {
		r, w := sequence(s)
		switch {
		case w == 0:
			out += `\x` + strconv.FormatInt(int64(s[0])+0x100, 16)[1:]
			w = 1
		case r == 0x22:
			out += `\"`
		case r == 0x5c:
			out += `\\`
		case r == 0xa:
			out += `\n`
		case r == 9:
			out += `\t`
		case 0x20 <= r && r <= 0x7e:
			out += s[:1]
		default:
			out += `\u{` + strconv.FormatInt(int64(r), 16) + `}`
		}
		s = s[w:]
	}
	return out + `"`
}

// holdQuote: both ways, with and without something behind the form.
func holdQuote(t *testing.T, s string) {
	t.Helper()
	q := utext.Quote(s)
	if want := wantQuote(s); q != want {
		t.Errorf("T7: Quote(%q) = %s, want %s", s, q, want)
		return
	}
	for _, rest := range []string{"", `"`, `\`, " x", "\xff"} {
		if x, n, e := utext.Unquote(q + rest); x != s || n != len(q) || e != api.OK {
			t.Errorf("T8: Unquote(%s) = %q, %d, %d, want %q, %d", q+rest, x, n, e, s, len(q))
		}
	}
}

func TestT7T8EveryShortString(t *testing.T) {
	for a := range 256 {
		holdQuote(t, string([]byte{byte(a)}))
		for b := range 256 {
			holdQuote(t, string([]byte{byte(a), byte(b)}))
		}
	}
	for _, s := range append(someTexts, someFaults...) {
		holdQuote(t, s)
	}
	pieces := []string{"a", "\"", "\\", "\n", "x", "u", "{", "\u00e9", "\xc3", "\xa9", "\xf0\x9f", "\xef\xbf\xbd"}
	eachString(pieces, 3, func(s string) { holdQuote(t, s) })
}

func TestT7T8EveryRune(t *testing.T) {
	for r := rune(0); r <= 0x10ffff; r++ {
		if r < 0xd800 || r > 0xdfff {
			holdQuote(t, string(r))
		}
	}
}

func TestT8Refused(t *testing.T) {
	for _, q := range []string{
		``, `a`, `a"b"`, ` ""`, `"`, `"a`, `"\`, `"\"`, `"\\`, `"a\"`,
		`"\q"`, `"\a"`, `"\0"`, `"\N"`, `"\r"`, `"\ "`,
		`"\x"`, `"\xc"`, `"\xc`, `"\xC3"`, `"\xcG"`, `"\x+1"`, `"\x_1"`, `"\x41"`, `"\x00"`, `"\x7f"`, `"\x22"`, `"\x5c"`, `"\x0a"`, `"\xc3\xa9"`, `"\xe2\x82\xac"`, `"\xf0\x9f\x98\x80"`,
		`"\xff`, `"\X80"`, `"\x8 "`, `"\x 8"`, `"\x80\x41"`,
		`"\u"`, `"\u{"`, `"\u{}"`, `"\u{e9"`, `"\ue9"`, `"\ue9}"`, `"\u(e9)"`, `"\u{E9}"`, `"\u{0e9}"`, `"\u{00}"`, `"\u{+e9}"`, `"\u{-1}"`, `"\u{e_9}"`, `"\u{ e9}"`, `"\u{0xe9}"`, `"\u{g}"`, `"\U{e9}"`, `"\u{e9`, `"\u{e9}`,
		`"\u{41}"`, `"\u{20}"`, `"\u{7e}"`, `"\u{22}"`, `"\u{5c}"`, `"\u{a}"`, `"\u{9}"`,
		`"\u{d800}"`, `"\u{dfff}"`, `"\u{110000}"`, `"\u{7fffffff}"`, `"\u{80000041}"`, `"\u{fffffffe}"`, `"\u{100000041}"`, `"\u{1000000e9}"`, `"\u{ffffffffffffffffff}"`, `"\u{100000000000000e9}"`, `"\u{"}"`,
		"\"\u00e9\"", "\"\n\"", "\"\t\"", "\"\x00\"", "\"\x7f\"", "\"\xff\"", "\"\ufffd\"", "'a'",
	} {
		if x, n, e := utext.Unquote(q); x != "" || n != 0 || e != api.ErrQuote {
			t.Errorf("T8: Unquote(%s) = %q, %d, %d, want ErrQuote", q, x, n, e)
		}
	}
}

func TestT8Taken(t *testing.T) {
	for _, c := range []struct {
		q string
		x string
		n int
	}{
		{`""`, "", 2}, {`"""`, "", 2}, {`"a"b"`, "a", 3}, {`"\\"`, `\`, 4}, {`"\""`, `"`, 4}, {`"\\\"" "`, `\"`, 6}, {`"{}"`, "{}", 4},
		{`"\u{e9}"`, "\u00e9", 8}, {`"\xe9"`, "\xe9", 6}, {`"\xa9\xc3"`, "\xa9\xc3", 10}, {`"\xc3\u{e9}"`, "\xc3\u00e9", 12}, {`"\u{fffd}\xef\xbf"`, "\ufffd\xef\xbf", 18},
		{`"\u{0}\u{7f}\u{feff}\u{10ffff}"`, "\x00\x7f\ufeff\U0010ffff", 31}, {`"\xed\xa0\x80"`, "\xed\xa0\x80", 14}, {`"\x800"`, "\x800", 7},
	} {
		if x, n, e := utext.Unquote(c.q); x != c.x || n != c.n || e != api.OK {
			t.Errorf("T8: Unquote(%s) = %q, %d, %d, want %q, %d", c.q, x, n, e, c.x, c.n)
		}
	}
}

// Of all short strings of the bytes that forms are made of, just those are taken that begin with a form of Quote's.
func TestT8NothingElseIsTaken(t *testing.T) {
	alphabet := []string{`"`, `\`, "x", "u", "{", "}", "8", "c", "\u00e9"}
	eachString(alphabet, 6, func(s string) {
		s = `"` + s
		x, n, e := utext.Unquote(s)
		switch e {
		case api.OK:
			if !strings.HasPrefix(s, wantQuote(x)) || n != len(wantQuote(x)) {
				t.Fatalf("T8: Unquote(%s) = %q, %d", s, x, n)
			}
		case api.ErrQuote:
			if x != "" || n != 0 {
				t.Fatalf("T8: Unquote(%s) = %q, %d beside an error", s, x, n)
			}
		default:
			t.Fatalf("T8: Unquote(%s) answers error %d", s, e)
		}
	})
}
