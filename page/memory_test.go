package page_test

import (
	"slices"
	"strings"
	"testing"
	"unsafe"

	"redraft/api"
	"redraft/page"
)

// overwrite: all of a list's memory, spare room too, and what an append writes.
func overwrite[T any](l []T, with T) {
	whole := l[:cap(l)]
	for i := range whole {
		whole[i] = with
	}
	_ = append(l, with, with)
}

// What is handed out is written over and appended to: the next answer is the same.
func TestP19_1Memory(t *testing.T) {
	for _, text := range someTexts() {
		for _, width := range []int{1, 3, 80} {
			m := modelOf(text, width)
			for range 3 {
				rows, e := page.Lay(text, width)
				if e != api.OK || !slices.Equal(rows, m.rows) {
					t.Fatalf("P19.1: Lay(%q, %d) = %v, want %v", text, width, rows, m.rows)
				}
				overwrite(rows, api.Line{Lo: -7, Hi: -8, Cols: -9})
				list, e := page.Show(text, width, api.MaxRows, 0, 0)
				if e != api.OK || !slices.Equal(list, m.show(api.MaxRows, 0, 0)) {
					t.Fatalf("P19.1: Show(%q, %d, ..) = %q", text, width, list)
				}
				overwrite(list, "?")
			}
		}
	}
}

// Two answers, held beside one another, share nothing.
func TestP19_1Apart(t *testing.T) {
	const text = "ab cd ef\n\tgh"
	rows, _ := page.Lay(text, 5)
	again, _ := page.Lay(text, 5)
	list, _ := page.Show(text, 5, 9, 0, 4)
	other, _ := page.Show(text, 5, 9, 0, 4)
	overwrite(rows, api.Line{})
	overwrite(list, "?")
	if m := modelOf(text, 5); !slices.Equal(again, m.rows) || !slices.Equal(other, m.show(9, 0, 4)) {
		t.Errorf("P19.1: %v, %q", again, other)
	}
}

// bytesOf: where a string lies in memory.
func bytesOf(s string) (lo, hi uintptr) {
	lo = uintptr(unsafe.Pointer(unsafe.StringData(s)))
	return lo, lo + uintptr(len(s))
}

func overlap(a, b string) bool {
	if a == "" || b == "" {
		return false
	}
	alo, ahi := bytesOf(a)
	blo, bhi := bytesOf(b)
	return alo < bhi && blo < ahi
}

// A row's string has no byte in common with the text, also where it is just the same.
func TestP19_1Strings(t *testing.T) {
	for _, line := range []string{"a", "abcde", "日本", strings.Repeat("ab ", 40) + "c"} {
		text := strings.Clone(line + "\n" + line)
		list, e := page.Show(text, api.MaxCols, 9, 0, -1)
		if e != api.OK || len(list) != 2 || list[0] != line || list[1] != line {
			t.Fatalf("P19.7: Show(%q, ..) = %q, %d", text, list, int(e))
		}
		if overlap(list[0], text) || overlap(list[1], text) || overlap(list[0], list[1]) {
			t.Errorf("P19.1: Show(%q, ..): strings that share memory", text)
		}
		one, _ := page.Show(line, api.MaxCols, 1, 0, -1)
		if overlap(one[0], line) {
			t.Errorf("P19.1: Show(%q, ..): the text's own memory", line)
		}
	}
}

// said: all that is told of a text, as one text.
func said(text string, width int) string {
	var b strings.Builder
	rows, e := page.Lay(text, width)
	b.WriteString(plain([]any{rows, e}))
	for at := range 4 {
		row, col, e := page.Spot(text, width, at)
		b.WriteString(plain([]any{row, col, e}))
		found, e := page.Find(text, width, at, 2)
		b.WriteString(plain([]any{found, e}))
		to, wants, e := page.Walk(text, width, at, -1, 3+at)
		b.WriteString(plain([]any{to, wants, e}))
		list, e := page.Show(text, width, 2, at, at)
		b.WriteString(plain([]any{list, e}))
		top, e := page.Top(text, width, 2, 1, at)
		b.WriteString(plain([]any{top, e}))
	}
	return b.String()
}

// Nothing is kept: whatever was asked in between, the answers are the same; so they are where others ask at the same time.
func TestP19_1NothingKept(t *testing.T) {
	all := append(someTexts(), "\xff", "\x00")
	once := map[string]string{}
	for _, text := range all {
		once[text] = said(text, 4)
	}
	done := make(chan string)
	for _, text := range all {
		go func() {
			for _, other := range all {
				said(other, 2)
				if said(text, 4) != once[text] {
					done <- text
					return
				}
			}
			done <- ""
		}()
	}
	for range all {
		if text := <-done; text != "" {
			t.Errorf("P19.1: of %q another answer", text)
		}
	}
}
