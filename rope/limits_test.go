package rope_test

import (
	"slices"
	"strings"
	"testing"

	"redraft/api"
	"redraft/rope"
)

// P3.4: as many cells as may be, and one more.
func TestFull(t *testing.T) {
	r := rope.New()
	if e := r.Insert(0, strings.Repeat("é", api.MaxPlace+1), 0); e != api.ErrGrow || r.Total() != 0 {
		t.Fatalf("one cell too many at once: %d, %d cells", e, r.Total())
	}
	if e := r.Insert(0, strings.Repeat("é", api.MaxPlace-2), 1); e != api.OK {
		t.Fatalf("nearly full: %d", e)
	}
	if e := r.Insert(7, "xyz", 0); e != api.ErrGrow || r.Total() != api.MaxPlace-2 || r.Text() != "" {
		t.Errorf("one cell too many: %d, %d cells, %q", e, r.Total(), r.Text())
	}
	if e := r.Insert(api.MaxPlace-2, "xy", 0); e != api.OK || r.Total() != api.MaxPlace || r.Text() != "xy" {
		t.Errorf("the last two cells: %d, %d cells, %q", e, r.Total(), r.Text())
	}
	for _, c := range []struct {
		at   int
		text string
		hid  int
		e    api.Errno
	}{
		{0, "q", 0, api.ErrGrow}, {api.MaxPlace, "q", 0, api.ErrGrow}, {api.MaxPlace + 1, "q", 0, api.ErrPlace}, {0, "\xff", 0, api.ErrUtf8},
		{0, "q", -1, api.ErrBelow}, {0, "q", api.MaxHid + 1, api.ErrAbove}, {api.MaxPlace, "", 0, api.OK},
	} {
		if e := r.Insert(c.at, c.text, c.hid); e != c.e || r.Total() != api.MaxPlace {
			t.Errorf("full: Insert(%d, %q, %d) = %d, want %d; %d cells", c.at, c.text, c.hid, e, c.e, r.Total())
		}
	}
	if e := r.Bump(list(0, api.MaxPlace), 1); e != api.OK || r.Shown() != 0 {
		t.Errorf("full: all hidden: %d, %d shown", e, r.Shown())
	}
	if e := r.Bump(list(0, api.MaxPlace-1), -1); e != api.OK || r.Text() != "x" {
		t.Errorf("full: x shown: %d, %q", e, r.Text())
	}
	kept(t, r, 3, "full")
}

// comb: n visible cells, each with a tombstone behind it.
func comb(t *testing.T, n int) *rope.Rope {
	t.Helper()
	var runs []api.Run
	for range n {
		runs = append(runs, api.Run{Text: "a"}, api.Run{Text: "b", Hid: 1})
	}
	return made(t, runs...)
}

// P3.9, P3.15: as many ranges as a list may have, and one more.
func TestManyRanges(t *testing.T) {
	r := comb(t, api.MaxRanges+1)
	if got, e := r.Visible(0, api.MaxRanges+1); len(got) != 0 || e != api.ErrMany {
		t.Errorf("Visible of one range too many: %d ranges, %d", len(got), e)
	}
	for lo := range 2 {
		want := listOf(2*(lo+api.MaxRanges), func(q int) bool { return q >= 2*lo && q%2 == 0 })
		if got, e := r.Visible(lo, lo+api.MaxRanges); !slices.Equal(got, want) || e != api.OK {
			t.Errorf("Visible(%d, %d): %d ranges, %d", lo, lo+api.MaxRanges, len(got), e)
		}
	}
	if got, e := r.Slice(0, api.MaxRanges+1); got != strings.Repeat("a", api.MaxRanges+1) || e != api.OK {
		t.Errorf("Slice is not bounded by ranges: %d bytes, %d", len(got), e)
	}
	if got, e := r.Visible(0, api.MaxRanges+2); len(got) != 0 || e != api.ErrPlace {
		t.Errorf("Visible beyond the end: %d ranges, %d", len(got), e)
	}
	kept(t, r, 2*api.MaxRanges+2, "a comb")
}

// P3.5: a list of as many ranges as may be, and one more.
func TestBumpManyRanges(t *testing.T) {
	r := comb(t, api.MaxRanges+1)
	first, _ := r.Visible(0, api.MaxRanges)
	if e := r.Bump(append(first, list(2*api.MaxRanges, 2*api.MaxRanges+1)...), 1); e != api.ErrMany || r.Shown() != api.MaxRanges+1 {
		t.Errorf("Bump of one range too many: %d, %d shown", e, r.Shown())
	}
	if e := r.Bump(first, 1); e != api.OK || r.Shown() != 1 || r.Text() != "a" {
		t.Errorf("Bump of %d ranges: %d, %d shown", len(first), e, r.Shown())
	}
	kept(t, r, 3, "a comb without teeth")
	if e := r.Bump(first, -1); e != api.OK || r.Shown() != api.MaxRanges+1 {
		t.Errorf("and back: %d, %d shown", e, r.Shown())
	}
	kept(t, r, 2*api.MaxRanges+2, "a comb again")
}

// P3.5: a counter's way to its end and beyond.
func TestCountersEnd(t *testing.T) {
	r := made(t, api.Run{Text: "ab", Hid: api.MaxHid - 1}, api.Run{Text: "c", Hid: 1})
	if e := r.Bump(list(0, 1, 2, 3), 1); e != api.OK {
		t.Fatalf("up to the end: %d", e)
	}
	want := row{{Rune: 'a', Hid: api.MaxHid}, {Rune: 'b', Hid: api.MaxHid - 1}, {Rune: 'c', Hid: 2}}
	sameCells(t, r, want, "up to the end")
	if e := r.Bump(list(0, 3), 1); e != api.ErrAbove {
		t.Errorf("beyond the end: %d", e)
	}
	sameCells(t, r, want, "beyond the end")
	if e := r.Bump(list(2, 3), -1); e != api.OK {
		t.Errorf("down: %d", e)
	}
	if e := r.Bump(list(1, 3), -1); e != api.OK || r.Text() != "c" {
		t.Errorf("down to 0: %d, %q", e, r.Text())
	}
	if e := r.Bump(list(0, 3), -1); e != api.ErrBelow || r.Text() != "c" {
		t.Errorf("below 0: %d, %q", e, r.Text())
	}
	sameCells(t, r, row{{Rune: 'a', Hid: api.MaxHid}, {Rune: 'b', Hid: api.MaxHid - 2}, {Rune: 'c'}}, "below 0")
}
