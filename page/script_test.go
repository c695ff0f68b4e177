package page_test

import (
	"math/rand"
	"strings"
	"testing"

	"redraft/api"
	"redraft/page"
)

// Every text of up to four runes, of each kind one: all calls, wherever they are asked.
func TestShortTexts(t *testing.T) {
	for n := range 5 {
		each(n, func(text string) {
			for width := 1; width <= 5; width++ {
				agree(t, text, width)
			}
		})
	}
}

func TestSomeTexts(t *testing.T) {
	for _, text := range someTexts() {
		for _, width := range []int{1, 2, 3, 4, 5, 7, 8, 20, 1023, 1024} {
			agree(t, text, width)
		}
	}
}

// chanceText: words, blanks, tabs, new lines, runes of all widths.
func chanceText(rnd *rand.Rand, n int) string {
	pool := []rune("aabcdeé_.|  \t\n日😀\u0301\u200d")
	var text []rune
	for range n {
		text = append(text, pool[rnd.Intn(len(pool))])
	}
	return string(text)
}

// Texts of many lines.
func TestChanceTexts(t *testing.T) {
	rnd := rand.New(rand.NewSource(19))
	for range 40 {
		text := chanceText(rnd, 30+rnd.Intn(20))
		agree(t, text, 1+rnd.Intn(12))
	}
	for range 400 {
		text := chanceText(rnd, rnd.Intn(600))
		width := 1 + rnd.Intn(30)
		agreeLay(t, text, width, modelOf(text, width))
	}
	for range 20 {
		laws(t, chanceText(rnd, 300), 1+rnd.Intn(30))
		shown(t, chanceText(rnd, 40), 1+rnd.Intn(9), 1+rnd.Intn(5))
	}
}

// A caret that walks for long by all walks, handing its wishes on.
func TestChanceWalks(t *testing.T) {
	rnd := rand.New(rand.NewSource(6))
	for range 40 {
		text := chanceText(rnd, 100)
		width := 1 + rnd.Intn(15)
		m := modelOf(text, width)
		at, want := 0, -1
		for range 200 {
			how := 1 + rnd.Intn(10)
			if rnd.Intn(3) > 0 {
				how = up + rnd.Intn(2)
			}
			to, wants := m.walk(at, want, how)
			gotTo, gotWants, e := page.Walk(text, width, at, want, how)
			same(t, call{"P19.6: Walk", text, []int{width, at, want, how}}, []any{gotTo, gotWants, e}, []any{to, wants, api.OK})
			at, want = to, wants
		}
	}
}

// The greatest text of a room, and one that is far greater: in one line without a blank, in words, in empty lines.
func TestGreatTexts(t *testing.T) {
	for _, n := range []int{api.MaxClients * api.MaxCells, 1 << 18} {
		for _, part := range []string{"a", "ab ", "\n", "\t", "日", "\u0301", "a\u0301 ", "word and word\n"} {
			text := strings.Repeat(part, n/len([]rune(part)))
			for _, width := range []int{1, 80, api.MaxCols} {
				rows, e := page.Lay(text, width)
				if e != api.OK {
					t.Fatalf("P19.3: Lay of %d times %q: %d", n, part, int(e))
				}
				nothingLost(t, []rune(text), width, rows)
				runes := len([]rune(text))
				row, col, e := page.Spot(text, width, runes)
				if last := rows[len(rows)-1]; e != api.OK || row != len(rows)-1 || col != last.Cols {
					t.Errorf("P19.4: Spot of the end of %d times %q: %d, %d, %d", n, part, row, col, int(e))
				}
				list, e := page.Show(text, width, api.MaxRows, len(rows)-1, runes)
				if e != api.OK || len(list) != 1 || !strings.HasSuffix(list[0], "|") {
					t.Errorf("P19.7: Show of the end of %d times %q: %d rows, %d", n, part, len(list), int(e))
				}
			}
		}
	}
}
