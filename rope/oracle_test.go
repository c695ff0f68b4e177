package rope_test

import (
	"math"
	"math/bits"
	"slices"
	"testing"

	"redraft/api"
	"redraft/rope"
	"redraft/span"
	"redraft/utext"
)

// The oracle is the row of cells itself: what a call answers is counted off cell by cell, as the chapter's words say it.

type row []api.Cell

// tooFar: places that no rope has.
var tooFar = []int{-1, math.MinInt, math.MaxInt, api.MaxPlace + 1}

// list: the ranges whose ends are the numbers, two by two.
func list(ends ...int) []api.Range {
	var out []api.Range
	for i := 0; i < len(ends); i += 2 {
		out = append(out, api.Range{Lo: ends[i], Hi: ends[i+1]})
	}
	return out
}

// listOf: the normal list of the rising places for which has holds.
func listOf(n int, has func(q int) bool) []api.Range {
	var out []api.Range
	for q := range n {
		if !has(q) {
			continue
		}
		if last := len(out) - 1; last >= 0 && out[last].Hi == q {
			out[last].Hi = q + 1
		} else {
			out = append(out, api.Range{Lo: q, Hi: q + 1})
		}
	}
	return out
}

func (w row) visible() []int {
	var out []int
	for q, c := range w {
		if c.Hid == 0 {
			out = append(out, q)
		}
	}
	return out
}

func (w row) text() string {
	var out []rune
	for _, q := range w.visible() {
		out = append(out, w[q].Rune)
	}
	return string(out)
}

func (w row) runs() []api.Run {
	var out []api.Run
	for q, c := range w {
		if q == 0 || w[q-1].Hid != c.Hid {
			out = append(out, api.Run{Hid: c.Hid})
		}
		out[len(out)-1].Text += string(c.Rune)
	}
	return out
}

func (w row) shownBefore(c int) int {
	n := 0
	for _, x := range w[:c] {
		if x.Hid == 0 {
			n++
		}
	}
	return n
}

func (w row) totalOf(p int) int {
	if v := w.visible(); p < len(v) {
		return v[p]
	}
	return len(w)
}

func (w row) visibleList(lo, hi int) []api.Range {
	picked := map[int]bool{}
	for _, q := range w.visible()[lo:hi] {
		picked[q] = true
	}
	return listOf(len(w), func(q int) bool { return picked[q] })
}

func cellsOf(text string, hid int) row {
	var out row
	for _, c := range []rune(text) {
		out = append(out, api.Cell{Rune: c, Hid: hid})
	}
	return out
}

func rowOf(runs []api.Run) row {
	var out row
	for _, run := range runs {
		out = append(out, cellsOf(run.Text, run.Hid)...)
	}
	return out
}

// insert: the row behind an Insert, and what it answers.
func (w row) insert(at int, text string, hid int) (row, api.Errno) {
	_, _, e := utext.Check(text)
	switch {
	case at < 0 || at > len(w):
		return w, api.ErrPlace
	case e != api.OK:
		return w, e
	case hid < 0:
		return w, api.ErrBelow
	case hid > api.MaxHid:
		return w, api.ErrAbove
	case len(w)+len([]rune(text)) > api.MaxPlace:
		return w, api.ErrGrow
	}
	return slices.Concat(w[:at], cellsOf(text, hid), w[at:]), api.OK
}

// bump: the row behind a Bump, and what it answers.
func (w row) bump(a []api.Range, by int) (row, api.Errno) {
	if by != 1 && by != -1 {
		return w, api.ErrPlace
	}
	if _, e := span.Check(a); e != api.OK {
		return w, e
	}
	out := slices.Clone(w)
	for _, g := range a {
		if g.Hi > len(w) {
			return w, api.ErrPlace
		}
		for q := g.Lo; q < g.Hi; q++ {
			out[q].Hid += by
		}
	}
	for _, c := range out {
		if c.Hid < 0 {
			return w, api.ErrBelow
		}
		if c.Hid > api.MaxHid {
			return w, api.ErrAbove
		}
	}
	return out, api.OK
}

func made(t *testing.T, runs ...api.Run) *rope.Rope {
	t.Helper()
	r, e := rope.From(runs)
	if e != api.OK || r == nil {
		t.Fatalf("From(%v) = %v, %d", runs, r, e)
	}
	return r
}

// sameCells: are r's cells those of w, as far as Runs, Text, Total and Shown tell it, and its tree within the bounds?
func sameCells(t *testing.T, r *rope.Rope, w row, behind string) {
	t.Helper()
	if got := r.Runs(); !slices.Equal(got, w.runs()) {
		t.Fatalf("%s: Runs() = %v, want %v", behind, got, w.runs())
	}
	if got := r.Text(); got != w.text() {
		t.Fatalf("%s: Text() = %q, want %q", behind, got, w.text())
	}
	if r.Total() != len(w) || r.Shown() != len(w.visible()) {
		t.Fatalf("%s: Total() = %d, Shown() = %d, want %d, %d", behind, r.Total(), r.Shown(), len(w), len(w.visible()))
	}
	kept(t, r, len(w.runs()), behind)
}

// kept: P3.14's bounds, for a rope of that many runs.
func kept(t *testing.T, r *rope.Rope, runs int, behind string) {
	t.Helper()
	k, h := r.Leaves(), r.Height()
	if k < runs || k > runs+r.Total()/16 {
		t.Fatalf("%s: Leaves() = %d with %d runs and %d cells", behind, k, runs, r.Total())
	}
	if b := bits.Len(uint(k)); h < b || h > 2*b {
		t.Fatalf("%s: Height() = %d with %d pieces", behind, h, k)
	}
}

// sameAnswers: does r answer as w does, at these places, taken for total and for visible ones?
func sameAnswers(t *testing.T, r *rope.Rope, w row, places []int, behind string) {
	t.Helper()
	for _, q := range places {
		sameCell(t, r, w, q, behind)
		sameTotalOf(t, r, w, q, behind)
		sameShownBefore(t, r, w, q, behind)
		for _, to := range places {
			sameStretch(t, r, w, q, to, behind)
		}
	}
}

func sameCell(t *testing.T, r *rope.Rope, w row, at int, behind string) {
	t.Helper()
	want, f := api.Cell{}, api.ErrPlace
	if 0 <= at && at < len(w) {
		want, f = w[at], api.OK
	}
	if got, e := r.Cell(at); got != want || e != f {
		t.Fatalf("%s: Cell(%d) = %v, %d, want %v, %d", behind, at, got, e, want, f)
	}
}

func sameTotalOf(t *testing.T, r *rope.Rope, w row, p int, behind string) {
	t.Helper()
	want, f := 0, api.ErrPlace
	if 0 <= p && p <= len(w.visible()) {
		want, f = w.totalOf(p), api.OK
	}
	if got, e := r.TotalOf(p); got != want || e != f {
		t.Fatalf("%s: TotalOf(%d) = %d, %d, want %d, %d", behind, p, got, e, want, f)
	}
}

func sameShownBefore(t *testing.T, r *rope.Rope, w row, c int, behind string) {
	t.Helper()
	want, f := 0, api.ErrPlace
	if 0 <= c && c <= len(w) {
		want, f = w.shownBefore(c), api.OK
	}
	if got, e := r.ShownBefore(c); got != want || e != f {
		t.Fatalf("%s: ShownBefore(%d) = %d, %d, want %d, %d", behind, c, got, e, want, f)
	}
}

func sameStretch(t *testing.T, r *rope.Rope, w row, lo, hi int, behind string) {
	t.Helper()
	var ranges []api.Range
	text, f := "", api.ErrPlace
	if 0 <= lo && lo <= hi && hi <= len(w.visible()) {
		ranges, text, f = w.visibleList(lo, hi), string([]rune(w.text())[lo:hi]), api.OK
	}
	if got, e := r.Visible(lo, hi); !slices.Equal(got, ranges) || e != f {
		t.Fatalf("%s: Visible(%d, %d) = %v, %d, want %v, %d", behind, lo, hi, got, e, ranges, f)
	}
	if got, e := r.Slice(lo, hi); got != text || e != f {
		t.Fatalf("%s: Slice(%d, %d) = %q, %d, want %q, %d", behind, lo, hi, got, e, text, f)
	}
}

// sameRest: does Cells(lo) give w's cells from lo on?
func sameRest(t *testing.T, r *rope.Rope, w row, lo int, behind string) {
	t.Helper()
	next := min(max(lo, 0), len(w))
	for q, c := range r.Cells(lo) {
		if q != next || q >= len(w) || c != w[q] {
			t.Fatalf("%s: Cells(%d) gives %d, %v where %d is due", behind, lo, q, c, next)
		}
		next++
	}
	if next != len(w) {
		t.Fatalf("%s: Cells(%d) ends at %d of %d cells", behind, lo, next, len(w))
	}
}
