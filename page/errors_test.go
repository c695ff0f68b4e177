package page_test

import (
	"testing"

	"redraft/api"
	"redraft/page"
)

// checked: an argument, and the error that it alone gives.
type checked[T any] struct {
	value T
	e     api.Errno
}

func texts() []checked[string] {
	return []checked[string]{
		{"ab cd\nef", api.OK}, // on a page of any width at least two rows; nine places
		{"\xff", api.ErrUtf8}, {"ab\n\xc3", api.ErrUtf8}, {"a\xed\xa0\x80", api.ErrUtf8}, {"\xff\x00", api.ErrUtf8},
		{"\x00", api.ErrRune}, {"ab\r\ncd", api.ErrRune}, {"\ufeffa", api.ErrRune}, {"\x7f\xff", api.ErrRune}, {"a\U0010ffff", api.ErrRune},
	}
}

func sizes(greatest int) []checked[int] {
	return []checked[int]{
		{1, api.OK}, {2, api.OK}, {greatest - 1, api.OK}, {greatest, api.OK},
		{0, api.ErrCols}, {-1, api.ErrCols}, {greatest + 1, api.ErrCols}, {least, api.ErrCols}, {huge, api.ErrCols},
	}
}

// from: numbers that are right from lo to hi; others give the error.
func from(lo, hi int, e api.Errno) []checked[int] {
	list := []checked[int]{{lo, api.OK}, {hi, api.OK}, {least, e}}
	if lo > least {
		list = append(list, checked[int]{lo - 1, e})
	}
	if hi < huge {
		list = append(list, checked[int]{hi + 1, e}, checked[int]{huge, e})
	}
	return list
}

func first(errors ...api.Errno) api.Errno {
	for _, e := range errors {
		if e != api.OK {
			return e
		}
	}
	return api.OK
}

// refused: just the error that is asked for; and if there is one, nothing else.
func refused(t *testing.T, c call, e, want api.Errno, answers ...int) {
	t.Helper()
	if e != want {
		t.Fatalf("P19.1: %s(%q, %v): error %d, want %d", c.name, c.text, c.numbers, int(e), int(want))
	}
	for _, n := range answers {
		if e != api.OK && n != 0 {
			t.Fatalf("P19.1: %s(%q, %v): error %d, and %v", c.name, c.text, c.numbers, int(e), answers)
		}
	}
}

// Each error of each call, alone and with each of the others: the first one is told.
func TestP19_1LaySpotFind(t *testing.T) {
	for _, text := range texts() {
		for _, width := range sizes(api.MaxCols) {
			rows, e := page.Lay(text.value, width.value)
			refused(t, call{"Lay", text.value, []int{width.value}}, e, first(text.e, width.e), len(rows))
			for _, at := range from(0, 8, api.ErrPlace) {
				row, col, e := page.Spot(text.value, width.value, at.value)
				refused(t, call{"Spot", text.value, []int{width.value, at.value}}, e, first(text.e, width.e, at.e), row, col)
			}
			for _, row := range from(0, rowsAt(width.value)-1, api.ErrPlace) {
				for _, col := range from(0, huge, api.ErrPlace) {
					at, e := page.Find(text.value, width.value, row.value, col.value)
					refused(t, call{"Find", text.value, []int{width.value, row.value, col.value}}, e, first(text.e, width.e, row.e, col.e), at)
				}
			}
		}
	}
}

// rowsAt: how many rows the first of the texts has on a page of that width.
func rowsAt(width int) int {
	switch width {
	case 1: // a, b, the blank, c, d, e, f
		return 7
	case 2: // ab, the blank, cd, ef
		return 4
	}
	return 2
}

func TestP19_1Walk(t *testing.T) {
	for _, text := range texts() {
		for _, width := range sizes(api.MaxCols) {
			for _, at := range from(0, 8, api.ErrPlace) {
				for _, how := range from(1, 10, api.ErrWalk) {
					for _, want := range []int{least, -1, 0, 3, huge} {
						to, wants, e := page.Walk(text.value, width.value, at.value, want, how.value)
						refused(t, call{"Walk", text.value, []int{width.value, at.value, want, how.value}}, e, first(text.e, width.e, at.e, how.e), to, wants)
					}
				}
			}
		}
	}
}

func TestP19_1ShowTop(t *testing.T) {
	for _, text := range texts() {
		for _, width := range sizes(api.MaxCols) {
			for _, height := range sizes(api.MaxRows) {
				for _, top := range from(0, rowsAt(width.value)-1, api.ErrPlace) {
					for _, caret := range from(-1, 8, api.ErrPlace) {
						list, e := page.Show(text.value, width.value, height.value, top.value, caret.value)
						refused(t, call{"Show", text.value, []int{width.value, height.value, top.value, caret.value}}, e, first(text.e, width.e, height.e, top.e, caret.e), len(list))
					}
				}
				for _, old := range from(0, huge, api.ErrPlace) {
					for _, caret := range from(0, 8, api.ErrPlace) {
						top, e := page.Top(text.value, width.value, height.value, old.value, caret.value)
						refused(t, call{"Top", text.value, []int{width.value, height.value, old.value, caret.value}}, e, first(text.e, width.e, height.e, old.e, caret.e), top)
					}
				}
			}
		}
	}
}

// The errors' numbers, as the chapter lists them.
func TestP19_1Numbers(t *testing.T) {
	if api.ErrUtf8 != 10 || api.ErrRune != 11 || api.ErrPlace != 12 || api.ErrWalk != 16 || api.ErrCols != 190 {
		t.Error("P19.1: other numbers than the chapter's")
	}
}
