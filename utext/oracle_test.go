package utext_test

import (
	"math"

	"redraft/api"
)

// The tests hold the package against the chapter's tables, written down here once more, byte by byte, so that nothing leans on how Go itself reads UTF-8.

type span struct{ lo, hi byte }

type shape struct {
	first []span
	rest  []span
}

func tail(n int) []span {
	var out []span
	for range n {
		out = append(out, span{0x80, 0xbf})
	}
	return out
}

var shapes = []shape{
	{[]span{{0x00, 0x7f}}, nil},
	{[]span{{0xc2, 0xdf}}, tail(1)},
	{[]span{{0xe0, 0xe0}}, []span{{0xa0, 0xbf}, {0x80, 0xbf}}},
	{[]span{{0xe1, 0xec}, {0xee, 0xef}}, tail(2)},
	{[]span{{0xed, 0xed}}, []span{{0x80, 0x9f}, {0x80, 0xbf}}},
	{[]span{{0xf0, 0xf0}}, []span{{0x90, 0xbf}, {0x80, 0xbf}, {0x80, 0xbf}}},
	{[]span{{0xf1, 0xf3}}, tail(3)},
	{[]span{{0xf4, 0xf4}}, []span{{0x80, 0x8f}, {0x80, 0xbf}, {0x80, 0xbf}}},
}

// sequence: the rune of the sequence that s begins with and its bytes; 0 bytes: none begins there.
func sequence(s string) (r, width int) {
	for _, sh := range shapes {
		for _, f := range sh.first {
			if len(s) > len(sh.rest) && f.lo <= s[0] && s[0] <= f.hi && fits(s[1:], sh.rest) {
				return value(s[:1+len(sh.rest)]), 1 + len(sh.rest)
			}
		}
	}
	return 0, 0
}

func fits(s string, spans []span) bool {
	for i, p := range spans {
		if s[i] < p.lo || s[i] > p.hi {
			return false
		}
	}
	return true
}

func value(seq string) int {
	b := func(i int) int { return int(seq[i]) & 0x3f }
	switch len(seq) {
	case 1:
		return int(seq[0])
	case 2:
		return int(seq[0]&0x1f)*0x40 + b(1)
	case 3:
		return int(seq[0]&0x0f)*0x1000 + b(1)*0x40 + b(2)
	}
	return int(seq[0]&0x07)*0x40000 + b(1)*0x1000 + b(2)*0x40 + b(3)
}

func admitted(r int) bool {
	switch {
	case r == 9, r == 0xa:
		return true
	case r <= 0x1f, 0x7f <= r && r <= 0x9f, r == 0xfeff, 0xfdd0 <= r && r <= 0xfdef:
		return false
	}
	return r%0x10000 != 0xfffe && r%0x10000 != 0xffff
}

// wantCheck: Check, by the chapter's words.
func wantCheck(s string) (runes, at int, e api.Errno) {
	for at < len(s) {
		r, w := sequence(s[at:])
		if w == 0 {
			return 0, at, api.ErrUtf8
		}
		if !admitted(r) {
			return 0, at, api.ErrRune
		}
		runes++
		at += w
	}
	return runes, 0, api.OK
}

// split: a text's runes, each as its bytes.
func split(s string) []string {
	var out []string
	for s != "" {
		_, w := sequence(s)
		out = append(out, s[:w])
		s = s[w:]
	}
	return out
}

// strings over an alphabet, of up to so many of its pieces, each handed to f.
func eachString(alphabet []string, most int, f func(string)) {
	var grow func(s string, left int)
	grow = func(s string, left int) {
		f(s)
		if left == 0 {
			return
		}
		for _, a := range alphabet {
			grow(s+a, left-1)
		}
	}
	grow("", most)
}

// texts with runes of all widths, new lines at every place, word runes and others; and strings that are none.
var someTexts = []string{
	"", "a", "\n", "\n\n", "abc", "a\n", "\na", "ab\ncd", "ab\n\ncd\n", "abc\nd\nefg", "abc\nd", "go on, then",
	"a\u00e9z", "a\u00e9\u20ac\U0001f600", "\u00e9\n\u20ac\U0001f600\n", "\ufffd\ufffd", "\t\n\t", "_9 \u00bf\u00c0.", ".. a ..",
}

var someFaults = []string{
	"\xff", "\x80", "ab\xc3", "\xe2\x82", "a\xed\xa0\x80", "\xf4\x90\x80\x80", "a\x00\xff", "a\xff\x00", "\x7f", "x\ufeff", "\ufdd0", "\U0010ffff", "\r",
}

var oddNumbers = []int{math.MinInt, math.MinInt + 1, -1 << 32, -2, -1, 1 << 20, 1 << 31, 1 << 32, math.MaxInt - 1, math.MaxInt}

// numbers: -2 to n + 2, and those far out.
func numbers(n int) []int {
	out := append([]int{}, oddNumbers...)
	for i := 0; i <= n+2; i++ {
		out = append(out, i)
	}
	return out
}
