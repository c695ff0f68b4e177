package utext_test

import (
	"math"
	"strings"
	"testing"

	"redraft/api"
	"redraft/utext"
)

func holdCheck(t *testing.T, s string) {
	t.Helper()
	n, at, e := utext.Check(s)
	if wn, wat, we := wantCheck(s); n != wn || at != wat || e != we {
		t.Errorf("T1: Check(%.40q) = %d, %d, %d, want %d, %d, %d", s, n, at, e, wn, wat, we)
	}
}

func TestT1EveryShortString(t *testing.T) {
	for a := range 256 {
		holdCheck(t, string([]byte{byte(a)}))
		for b := range 256 {
			holdCheck(t, string([]byte{byte(a), byte(b)}))
			holdCheck(t, string([]byte{'x', byte(a), byte(b), 'y'}))
		}
	}
}

// The ends of each range of bytes in the table of sequences, and their neighbours, in all rows of three and four.
func TestT1EdgesOfSequences(t *testing.T) {
	firsts := []byte{0x00, 0x7f, 0x80, 0xbf, 0xc0, 0xc1, 0xc2, 0xdf, 0xe0, 0xe1, 0xec, 0xed, 0xee, 0xef, 0xf0, 0xf1, 0xf3, 0xf4, 0xf5, 0xff}
	others := []byte{0x00, 0x7f, 0x80, 0x8f, 0x90, 0x9f, 0xa0, 0xbf, 0xc0, 0xff}
	for _, a := range firsts {
		for _, b := range others {
			for _, c := range others {
				holdCheck(t, string([]byte{a, b, c}))
				for _, d := range others {
					holdCheck(t, string([]byte{a, b, c, d}))
				}
			}
		}
	}
}

func TestT1EveryRune(t *testing.T) {
	for r := 0; r <= 0x10ffff; r++ {
		s := string(rune(r))
		if v, w := sequence(s); r < 0xd800 || r > 0xdfff {
			if v != r || w != len(s) {
				t.Fatalf("the test's own table reads %x as %x", r, v)
			}
		}
		holdCheck(t, s)
	}
}

func TestT1EdgesOfRunesNotLetIn(t *testing.T) {
	for _, c := range []struct {
		r  rune
		in bool
	}{
		{0, false}, {8, false}, {9, true}, {0xa, true}, {0xb, false}, {0xd, false}, {0x1f, false}, {0x20, true}, {0x7e, true}, {0x7f, false}, {0x80, false}, {0x9f, false}, {0xa0, true},
		{0xd7ff, true}, {0xe000, true}, {0xfdcf, true}, {0xfdd0, false}, {0xfdef, false}, {0xfdf0, true}, {0xfefe, true}, {0xfeff, false}, {0xff00, true},
		{0xfffd, true}, {0xfffe, false}, {0xffff, false}, {0x10000, true}, {0x1fffd, true}, {0x1fffe, false}, {0x1ffff, false}, {0x20000, true}, {0x10fffd, true}, {0x10fffe, false}, {0x10ffff, false},
	} {
		s := "\u00e9" + string(c.r) + "z"
		n, at, e := utext.Check(s)
		if c.in && (n != 3 || at != 0 || e != api.OK) || !c.in && (n != 0 || at != 2 || e != api.ErrRune) {
			t.Errorf("T1: Check of %x between two runes = %d, %d, %d", c.r, n, at, e)
		}
	}
}

func TestT1FirstFault(t *testing.T) {
	for _, c := range []struct {
		s  string
		at int
		e  api.Errno
	}{
		{"\x00\xff", 0, api.ErrRune}, {"\xff\x00", 0, api.ErrUtf8}, {"ab\ufeff\x80", 2, api.ErrRune}, {"ab\x80\ufeff", 2, api.ErrUtf8},
		{"\ufffd\xef\xbf", 3, api.ErrUtf8}, {"\ufffd\xff\ufffd", 3, api.ErrUtf8}, {"\U0001f600\xf0\x9f\x98", 4, api.ErrUtf8},
		{"\xef\xbf", 0, api.ErrUtf8}, {"\xef\xbf\xbd\xef\xbf\xbe", 3, api.ErrRune}, {"\xc3\xc3\xa9", 0, api.ErrUtf8},
	} {
		if n, at, e := utext.Check(c.s); n != 0 || at != c.at || e != c.e {
			t.Errorf("T1: Check(%q) = %d, %d, %d, want 0, %d, %d", c.s, n, at, e, c.at, c.e)
		}
	}
}

func TestNoLimitOnLength(t *testing.T) {
	long := strings.Repeat("a\u00e9\n", 1<<18)
	n := 3 << 18
	if got, at, e := utext.Check(long); got != n || at != 0 || e != api.OK {
		t.Errorf("T1: Check of a long text = %d, %d, %d", got, at, e)
	}
	if got, at, e := utext.Check(long + "\xff"); got != 0 || at != len(long) || e != api.ErrUtf8 {
		t.Errorf("T1: Check of a long string with a fault = %d, %d, %d", got, at, e)
	}
	if at, e := utext.Place(long, n); at != len(long) || e != api.OK {
		t.Errorf("T2: Place in a long text = %d, %d", at, e)
	}
	if got, e := utext.Step(long, 0, 10); got != n || e != api.OK {
		t.Errorf("T11: Step in a long text = %d, %d", got, e)
	}
	if s, w, e := utext.Unquote(utext.Quote(long)); s != long || w != 9<<18+2 || e != api.OK {
		t.Errorf("T8: Unquote of a long form: %d bytes, %d, %d", len(s), w, e)
	}
}

func TestT2Place(t *testing.T) {
	for _, s := range someTexts {
		runes := split(s)
		for _, at := range numbers(len(runes)) {
			want, we := 0, api.ErrPlace
			if 0 <= at && at <= len(runes) {
				want, we = len(strings.Join(runes[:at], "")), api.OK
			}
			if got, e := utext.Place(s, at); got != want || e != we {
				t.Errorf("T2: Place(%q, %d) = %d, %d, want %d, %d", s, at, got, e, want, we)
			}
		}
	}
}

func TestT3Index(t *testing.T) {
	for _, s := range someTexts {
		runes := split(s)
		begins := map[int]int{}
		for i := range len(runes) + 1 {
			begins[len(strings.Join(runes[:i], ""))] = i
		}
		for _, at := range numbers(len(s)) {
			want, there := begins[at]
			we := api.OK
			if !there {
				we = api.ErrPlace
			}
			if got, e := utext.Index(s, at); got != want || e != we {
				t.Errorf("T3: Index(%q, %d) = %d, %d, want %d, %d", s, at, got, e, want, we)
			}
		}
	}
}

func TestT4Slice(t *testing.T) {
	for _, s := range someTexts {
		runes := split(s)
		for _, lo := range numbers(len(runes)) {
			for _, hi := range numbers(len(runes)) {
				want, we := "", api.ErrPlace
				if 0 <= lo && lo <= hi && hi <= len(runes) {
					want, we = strings.Join(runes[lo:hi], ""), api.OK
				}
				if got, e := utext.Slice(s, lo, hi); got != want || e != we {
					t.Errorf("T4: Slice(%q, %d, %d) = %q, %d, want %q, %d", s, lo, hi, got, e, want, we)
				}
			}
		}
	}
}

func TestT5Splice(t *testing.T) {
	for _, s := range someTexts {
		runes := split(s)
		for _, at := range numbers(len(runes)) {
			for _, del := range numbers(len(runes)) {
				for _, ins := range []string{"", "x", "\u20ac\n"} {
					want, we := "", api.ErrPlace
					if 0 <= at && at <= len(runes) && 0 <= del && del <= len(runes)-at {
						want, we = strings.Join(runes[:at], "")+ins+strings.Join(runes[at+del:], ""), api.OK
					}
					if got, e := utext.Splice(s, at, del, ins); got != want || e != we {
						t.Errorf("T5: Splice(%q, %d, %d, %q) = %q, %d, want %q, %d", s, at, del, ins, got, e, want, we)
					}
				}
			}
		}
	}
}

func TestT5SumsDoNotWrap(t *testing.T) {
	for _, c := range []struct{ at, del int }{
		{1, math.MaxInt}, {math.MaxInt, 1}, {math.MaxInt, math.MaxInt}, {3, math.MaxInt - 2}, {math.MinInt, math.MinInt}, {-1, 1}, {1, -1}, {math.MinInt, math.MaxInt}, {4, -1},
	} {
		if got, e := utext.Splice("abc", c.at, c.del, "x"); got != "" || e != api.ErrPlace {
			t.Errorf("T5: Splice(\"abc\", %d, %d) = %q, %d, want ErrPlace", c.at, c.del, got, e)
		}
	}
}

// wantDiff tries every at and every t, greatest first, as the chapter words the rule.
func wantDiff(old, now string) (at, del int, ins string) {
	a, b := split(old), split(now)
	join := func(l []string) string { return strings.Join(l, "|") }
	at = min(len(a), len(b))
	for join(a[:at]) != join(b[:at]) {
		at--
	}
	end := min(len(a), len(b)) - at
	for join(a[len(a)-end:]) != join(b[len(b)-end:]) {
		end--
	}
	return at, len(a) - at - end, strings.Join(b[at:len(b)-end], "")
}

func TestT6Diff(t *testing.T) {
	var list []string
	// e9 and e8 share their first byte, 129 and e9 their last one.
	eachString([]string{"a", "\u00e9", "\u00e8", "\u0129"}, 4, func(s string) { list = append(list, s) })
	for _, old := range list {
		for _, now := range list {
			at, del, ins, e := utext.Diff(old, now)
			wat, wdel, wins := wantDiff(old, now)
			if at != wat || del != wdel || ins != wins || e != api.OK {
				t.Fatalf("T6: Diff(%q, %q) = %d, %d, %q, %d, want %d, %d, %q", old, now, at, del, ins, e, wat, wdel, wins)
			}
			if got, e := utext.Splice(old, at, del, ins); got != now || e != api.OK {
				t.Fatalf("T6: Splice(%q, %d, %d, %q) = %q, %d, want %q", old, at, del, ins, got, e, now)
			}
		}
	}
}

// A string that is no text is refused with its own error, whatever else is wrong; of two, the first one's counts.
func TestTheTextsErrorComesFirst(t *testing.T) {
	for _, s := range someFaults {
		_, _, e := wantCheck(s)
		for _, n := range []int{math.MinInt, -1, 0, 1, 99, math.MaxInt} {
			if v, got := utext.Place(s, n); v != 0 || got != e {
				t.Errorf("T2: Place(%q, %d) = %d, %d, want %d", s, n, v, got, e)
			}
			if v, got := utext.Index(s, n); v != 0 || got != e {
				t.Errorf("T3: Index(%q, %d) = %d, %d, want %d", s, n, v, got, e)
			}
			if v, got := utext.Slice(s, n, -n); v != "" || got != e {
				t.Errorf("T4: Slice(%q, %d, %d) = %q, %d, want %d", s, n, -n, v, got, e)
			}
			if v, got := utext.Splice(s, n, n, ""); v != "" || got != e {
				t.Errorf("T5: Splice(%q, %d, %d) = %q, %d, want %d", s, n, n, v, got, e)
			}
			if v, got := utext.Splice("abc", n, n, s); v != "" || got != e {
				t.Errorf("T5: Splice of ins %q, %d, %d = %q, %d, want %d", s, n, n, v, got, e)
			}
			if l, c, got := utext.Where(s, n); l != 0 || c != 0 || got != e {
				t.Errorf("T9: Where(%q, %d) = %d, %d, %d, want %d", s, n, l, c, got, e)
			}
			if v, got := utext.Find(s, n, n); v != 0 || got != e {
				t.Errorf("T10: Find(%q, %d, %d) = %d, %d, want %d", s, n, n, v, got, e)
			}
			if v, got := utext.Step(s, n, n); v != 0 || got != e {
				t.Errorf("T11: Step(%q, %d, %d) = %d, %d, want %d", s, n, n, v, got, e)
			}
		}
		for _, other := range append([]string{"", "a"}, someFaults...) {
			we := e
			if at, del, ins, got := utext.Diff(s, other); at != 0 || del != 0 || ins != "" || got != we {
				t.Errorf("T6: Diff(%q, %q) = %d, %d, %q, %d, want %d", s, other, at, del, ins, got, we)
			}
			if v, got := utext.Splice(s, 0, 0, other); v != "" || got != we {
				t.Errorf("T5: Splice(%q, 0, 0, %q) = %q, %d, want %d", s, other, v, got, we)
			}
			if _, _, oe := wantCheck(other); oe == api.OK {
				if at, del, ins, got := utext.Diff(other, s); at != 0 || del != 0 || ins != "" || got != we {
					t.Errorf("T6: Diff(%q, %q) = %d, %d, %q, %d, want %d", other, s, at, del, ins, got, we)
				}
			}
		}
	}
}
