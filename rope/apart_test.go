package rope_test

import (
	"fmt"
	"math/rand"
	"slices"
	"strings"
	"testing"

	"redraft/api"
	"redraft/rope"
)

// P3.13: copies of copies, changed by turns at random: none sees another's changes.
func TestCopiesByTurns(t *testing.T) {
	rnd := rand.New(rand.NewSource(5))
	ropes, rows := []*rope.Rope{rope.New()}, []row{{}}
	for i := range 400 {
		k := rnd.Intn(len(ropes))
		if i%40 == 0 {
			ropes, rows = append(ropes, ropes[k].Copy()), append(rows, rows[k])
		}
		if rnd.Intn(2) == 0 {
			rows[k] = randomInsert(t, rnd, ropes[k], rows[k])
		} else {
			rows[k] = randomBump(t, rnd, ropes[k], rows[k])
		}
		for j := range ropes {
			sameCells(t, ropes[j], rows[j], fmt.Sprintf("step %d: rope %d changed, rope %d", i, k, j))
		}
	}
}

// P3.13: a copy of a rope without cells, and that a copy is another rope.
func TestCopyOfNothing(t *testing.T) {
	r := rope.New()
	c := r.Copy()
	if c == nil || c == r {
		t.Fatalf("Copy() = %p of %p", c, r)
	}
	c.Insert(0, "c", 0)
	sameCells(t, r, nil, "its copy changed")
	r.Insert(0, "rr", 1)
	sameCells(t, c, cellsOf("c", 0), "what it is a copy of changed")
}

// gone: what seq gives, at most most cells of it.
func gone(seq func(func(int, api.Cell) bool), most int) (places []int, cells row) {
	for q, c := range seq {
		if len(cells) == most {
			break
		}
		places, cells = append(places, q), append(cells, c)
	}
	return places, cells
}

// P3.12: left early at each cell, and gone through again from the start.
func TestCellsAgain(t *testing.T) {
	w := rowOf([]api.Run{{Text: "ab"}, {Text: strings.Repeat("c", 70), Hid: 1}, {Text: "def"}})
	r := made(t, w.runs()...)
	for _, lo := range []int{0, 1, 40, len(w) - 1} {
		seq := r.Cells(lo)
		for n := range len(w) - lo + 1 {
			places, cells := gone(seq, n)
			if !slices.Equal(cells, w[lo:lo+n]) || len(places) > 0 && (places[0] != lo || places[len(places)-1] != lo+n-1) {
				t.Fatalf("Cells(%d), left behind %d: %v, %v", lo, n, places, cells)
			}
		}
		if _, cells := gone(seq, len(w)); !slices.Equal(cells, w[lo:]) {
			t.Fatalf("Cells(%d), gone through at last: %v", lo, cells)
		}
	}
}

// P3.12: two loops over one sequence, one within the other, don't hinder each other.
func TestCellsWithin(t *testing.T) {
	r := made(t, api.Run{Text: "abc"}, api.Run{Text: "de", Hid: 1})
	seq := r.Cells(1)
	count := 0
	for q := range seq {
		inner := 1
		for p := range seq {
			if p != inner {
				t.Fatalf("within %d: %d, want %d", q, p, inner)
			}
			inner++
		}
		count++
	}
	if count != 4 {
		t.Errorf("%d cells", count)
	}
}

// P3.12: a sequence gives the cells as they stood when Cells was called, whatever is done to the rope, ahead of the loop and within it.
func TestCellsOfThen(t *testing.T) {
	w := rowOf([]api.Run{{Text: strings.Repeat("ab", 30)}, {Text: "xyz", Hid: 2}})
	r := made(t, w.runs()...)
	seq := r.Cells(0)
	for _, n := range []int{0, 1, 30, len(w)} {
		seen := 0
		for q, c := range seq {
			if q != seen || c != w[q] {
				t.Fatalf("cell %d: %d, %v", seen, q, c)
			}
			if seen == n {
				r.Insert(q+1, "new", 0)
				r.Bump(list(0, r.Total()), 1)
			}
			seen++
		}
		if seen != len(w) {
			t.Errorf("%d cells of %d", seen, len(w))
		}
		r.Insert(0, "more", 1)
	}
	if r.Total() == len(w) {
		t.Errorf("the rope was not changed")
	}
}

// P3.12: a sequence of a rope without cells stays without.
func TestCellsOfNothing(t *testing.T) {
	r := rope.New()
	seq := r.Cells(0)
	r.Insert(0, "late", 0)
	if places, _ := gone(seq, 9); places != nil {
		t.Errorf("gives %v", places)
	}
}

// P3.1: what is handed in is neither changed nor kept.
func TestHandedIn(t *testing.T) {
	runs := []api.Run{{Text: "abc"}, {Text: "def", Hid: 1}}
	given := slices.Clone(runs)
	r, _ := rope.From(runs)
	if !slices.Equal(runs, given) {
		t.Errorf("From made %v of its runs", runs)
	}
	runs[0], runs[1] = api.Run{Text: "gone", Hid: 3}, api.Run{Text: "too", Hid: 4}
	sameCells(t, r, rowOf(given), "the runs changed behind From")

	roomy := list(0, 1, 2, 4, 5, 6)
	if e := r.Bump(roomy[:2], 1); e != api.OK || !slices.Equal(roomy, list(0, 1, 2, 4, 5, 6)) {
		t.Errorf("Bump: %d, made %v of its list", e, roomy)
	}
	want := row{{Rune: 'a', Hid: 1}, {Rune: 'b'}, {Rune: 'c', Hid: 1}, {Rune: 'd', Hid: 2}, {Rune: 'e', Hid: 1}, {Rune: 'f', Hid: 1}}
	roomy[0], roomy[1] = api.Range{Lo: 1, Hi: 2}, api.Range{Lo: 4, Hi: 9}
	sameCells(t, r, want, "the list changed behind Bump")
}

// P3.1: every answered list is new memory, spare room too.
func TestHandedOut(t *testing.T) {
	w := rowOf([]api.Run{{Text: "ab"}, {Text: "c", Hid: 1}, {Text: "de"}, {Text: "f", Hid: 2}, {Text: "g"}})
	r := made(t, w.runs()...)
	other := r.Copy()
	for range 2 {
		a, _ := r.Visible(0, r.Shown())
		b, _ := r.Visible(0, r.Shown())
		runs, again := r.Runs(), r.Runs()
		spoilRanges(a[:cap(a)])
		spoilRuns(runs[:cap(runs)])
		if !slices.Equal(b, list(0, 2, 3, 5, 6, 7)) || !slices.Equal(again, w.runs()) {
			t.Fatalf("two answers share memory: %v, %v", b, again)
		}
		for _, x := range []*rope.Rope{r, other} {
			sameCells(t, x, w, "answers written into")
			sameAnswers(t, x, w, everyPlace(len(w)), "answers written into")
		}
	}
}

func spoilRanges(a []api.Range) {
	for i := range a {
		a[i] = api.Range{Lo: -7, Hi: -8}
	}
}

func spoilRuns(a []api.Run) {
	for i := range a {
		a[i] = api.Run{Text: "spoilt", Hid: 99}
	}
}

// P3.1: no query changes anything, whatever it is asked.
func TestQueriesChangeNothing(t *testing.T) {
	rnd := rand.New(rand.NewSource(8))
	r, w := rope.New(), row{}
	for range 60 {
		r, w = randomStep(t, rnd, r, w)
	}
	h, k := r.Height(), r.Leaves()
	for _, q := range everyPlace(len(w)) {
		r.Cell(q)
		r.TotalOf(q)
		r.ShownBefore(q)
		r.Visible(0, q)
		r.Visible(q, len(w))
		r.Slice(q, q)
		gone(r.Cells(q), 3)
		r.Copy()
		r.Text()
		r.Runs()
		if r.Height() != h || r.Leaves() != k {
			t.Fatalf("Height() = %d, Leaves() = %d behind queries at %d, were %d, %d", r.Height(), r.Leaves(), q, h, k)
		}
	}
	sameCells(t, r, w, "many queries")
}
