package utext_test

import (
	"math"
	"strings"
	"testing"

	"redraft/api"
	"redraft/utext"
)

// lines: each line's runes, the new lines left out.
func lines(s string) [][]string {
	var out [][]string
	for _, l := range strings.Split(s, "\n") {
		out = append(out, split(l))
	}
	return out
}

// begin: the place at which a line begins.
func begin(all [][]string, line int) int {
	at := 0
	for _, l := range all[:line] {
		at += len(l) + 1
	}
	return at
}

func wantWhere(s string, at int) (line, col int) {
	head := strings.Join(split(s)[:at], "")
	all := lines(head)
	return len(all) - 1, len(all[len(all)-1])
}

func TestT9Where(t *testing.T) {
	for _, s := range someTexts {
		n := len(split(s))
		for _, at := range numbers(n) {
			line, col, we := 0, 0, api.ErrPlace
			if 0 <= at && at <= n {
				line, col = wantWhere(s, at)
				we = api.OK
			}
			if l, c, e := utext.Where(s, at); l != line || c != col || e != we {
				t.Errorf("T9: Where(%q, %d) = %d, %d, %d, want %d, %d, %d", s, at, l, c, e, line, col, we)
			}
		}
	}
}

func TestT10Find(t *testing.T) {
	for _, s := range someTexts {
		all := lines(s)
		for _, line := range numbers(len(all)) {
			for _, col := range numbers(len(split(s))) {
				want, we := 0, api.ErrPlace
				if 0 <= line && line < len(all) && col >= 0 {
					want, we = begin(all, line)+min(col, len(all[line])), api.OK
				}
				if at, e := utext.Find(s, line, col); at != want || e != we {
					t.Errorf("T10: Find(%q, %d, %d) = %d, %d, want %d, %d", s, line, col, at, e, want, we)
				}
			}
		}
	}
}

func TestT9T10AreEachOthersInverse(t *testing.T) {
	for _, s := range someTexts {
		for at := range len(split(s)) + 1 {
			line, col, _ := utext.Where(s, at)
			if got, e := utext.Find(s, line, col); got != at || e != api.OK {
				t.Errorf("T10: Find(%q, %d, %d) = %d, %d, want %d", s, line, col, got, e, at)
			}
		}
	}
}

const wordRunes = "ABCDEFGHIJKLMNOPQRSTUVWXYZabcdefghijklmnopqrstuvwxyz0123456789_"

func isWord(piece string) bool {
	r, _ := sequence(piece)
	return r >= 0xc0 || strings.Contains(wordRunes, piece)
}

// wantStep: Step, row by row of the chapter's table.
func wantStep(s string, at, how int) int {
	runes, all := split(s), lines(s)
	n := len(runes)
	line, col := wantWhere(s, at)
	in := func(line int) int { return begin(all, line) + min(col, len(all[line])) }
	switch {
	case how == 1 && at > 0:
		return at - 1
	case how == 2 && at < n:
		return at + 1
	case how == 3:
		return begin(all, line)
	case how == 4:
		return begin(all, line) + len(all[line])
	case how == 5 && line > 0:
		return in(line - 1)
	case how == 6 && line < len(all)-1:
		return in(line + 1)
	case how == 7:
		for at > 0 && !isWord(runes[at-1]) {
			at--
		}
		for at > 0 && isWord(runes[at-1]) {
			at--
		}
		return at
	case how == 8:
		for at < n && !isWord(runes[at]) {
			at++
		}
		for at < n && isWord(runes[at]) {
			at++
		}
		return at
	case how%2 == 1: // left, up and top, where they can't go on
		return 0
	}
	return n
}

func holdSteps(t *testing.T, s string) {
	t.Helper()
	for at := range len(split(s)) + 1 {
		for how := 1; how <= 10; how++ {
			if to, e := utext.Step(s, at, how); to != wantStep(s, at, how) || e != api.OK {
				t.Fatalf("T11: Step(%q, %d, %d) = %d, %d, want %d", s, at, how, to, e, wantStep(s, at, how))
			}
		}
	}
}

func TestT11Step(t *testing.T) {
	for _, s := range someTexts {
		holdSteps(t, s)
	}
	eachString([]string{"a", " ", "\n", "\u00e9"}, 5, func(s string) { holdSteps(t, s) })
}

func TestT11WordRunes(t *testing.T) {
	for r := rune(9); r <= 0x250; r++ {
		s := string(r)
		if _, _, e := wantCheck(s); e == api.OK {
			holdSteps(t, "a"+s+"a "+s+s+" ")
		}
	}
	holdSteps(t, "\u20ac.\ufffd \U0001f600")
}

func TestT11Refused(t *testing.T) {
	walks := []int{math.MinInt, -10, -1, 0, 11, 12, 1 << 32, 1<<32 + 1, math.MaxInt}
	for _, how := range walks {
		for _, at := range []int{0, 1, 2} {
			if to, e := utext.Step("ab", at, how); to != 0 || e != api.ErrWalk {
				t.Errorf("T11: Step(\"ab\", %d, %d) = %d, %d, want ErrWalk", at, how, to, e)
			}
		}
	}
	for _, at := range []int{math.MinInt, -1, 3, 1 << 32, math.MaxInt} {
		for _, how := range append(walks, 1, 2, 3, 4, 5, 6, 7, 8, 9, 10) {
			if to, e := utext.Step("ab", at, how); to != 0 || e != api.ErrPlace {
				t.Errorf("T11: Step(\"ab\", %d, %d) = %d, %d, want ErrPlace", at, how, to, e)
			}
		}
	}
}
