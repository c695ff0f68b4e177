package rope_test

import (
	"fmt"
	"slices"
	"testing"

	"redraft/api"
	"redraft/rope"
)

// smallRows: all rows of at most most cells with counters 0, 1 and 2.
func smallRows(most int) []row {
	rows := []row{{}}
	for from := 0; most > 0; most-- {
		upto := len(rows)
		for ; from < upto; from++ {
			for hid := range 3 {
				c := api.Cell{Rune: rune('a' + len(rows[from])), Hid: hid}
				rows = append(rows, append(slices.Clone(rows[from]), c))
			}
		}
	}
	return rows
}

// everyPlace: all places of a row of n cells, those just beyond, and some far off.
func everyPlace(n int) []int {
	places := slices.Clone(tooFar)
	for q := range n + 2 {
		places = append(places, q)
	}
	return places
}

// P3.3, P3.6 to P3.12: all queries with all arguments, of all small ropes.
func TestQueriesOfSmallRopes(t *testing.T) {
	for _, w := range smallRows(5) {
		r := made(t, w.runs()...)
		name := fmt.Sprint("From ", w.runs())
		sameCells(t, r, w, name)
		sameAnswers(t, r, w, everyPlace(len(w)), name)
		for _, lo := range everyPlace(len(w)) {
			sameRest(t, r, w, lo, name)
		}
	}
}

// P3.4, P3.16: all places, counters at both ends and beyond, texts of each kind.
func TestInsertIntoSmallRopes(t *testing.T) {
	texts := []string{"", "x", "éß", "\U0001f600\n", "\xff", "x\x00", "a\x00\xff", "a\xff\x00", "\ufeff"}
	for _, w := range smallRows(3) {
		for _, at := range everyPlace(len(w)) {
			for _, text := range texts {
				for _, hid := range []int{0, 1, 2, api.MaxHid, -1, api.MaxHid + 1, tooFar[1], tooFar[2]} {
					r := made(t, w.runs()...)
					name := fmt.Sprintf("%v: Insert(%d, %q, %d)", w.runs(), at, text, hid)
					want, f := w.insert(at, text, hid)
					if e := r.Insert(at, text, hid); e != f {
						t.Fatalf("%s = %d, want %d", name, e, f)
					}
					sameCells(t, r, want, name)
					if f == api.OK {
						sameInText(t, r, w, at, text, hid, name)
					}
				}
			}
		}
	}
}

// sameInText: P3.16, told by the text ahead of the insert.
func sameInText(t *testing.T, r *rope.Rope, was row, at int, text string, hid int, name string) {
	t.Helper()
	before := []rune(was.text())
	p := was.shownBefore(at)
	want := string(before)
	if hid == 0 {
		want = string(before[:p]) + text + string(before[p:])
	}
	if got := r.Text(); got != want {
		t.Fatalf("%s: Text() = %q, want %q", name, got, want)
	}
}

// P3.5: all sets of places of all small ropes, both ways.
func TestBumpOfSmallRopes(t *testing.T) {
	for _, w := range smallRows(5) {
		for set := range 1 << (len(w) + 1) {
			a := listOf(len(w)+1, func(q int) bool { return set>>q&1 == 1 })
			for _, by := range []int{1, -1} {
				r := made(t, w.runs()...)
				name := fmt.Sprintf("%v: Bump(%v, %d)", w.runs(), a, by)
				want, f := w.bump(a, by)
				if e := r.Bump(a, by); e != f {
					t.Fatalf("%s = %d, want %d", name, e, f)
				}
				sameCells(t, r, want, name)
				sameAnswers(t, r, want, []int{0, 1, len(w) - 1, len(w)}, name)
			}
		}
	}
}

// P3.5: numbers and lists that are refused, alone and beside each other.
func TestBumpRefused(t *testing.T) {
	w := rowOf([]api.Run{{Text: "a"}, {Text: "b", Hid: 1}, {Text: "cd", Hid: api.MaxHid}})
	lists := [][]api.Range{
		nil, {}, list(1, 2), list(0, 1), list(0, 2), list(2, 3), list(0, 1, 2, 4), list(1, 2, 3, 4), list(1, 5), list(1, 2, 4, 5), list(0, api.MaxPlace),
		list(1, 1), list(4, 4), list(2, 1), list(-1, 1), list(0, api.MaxPlace+1), list(tooFar[1], tooFar[2]), list(1, 2, 2, 3), list(2, 3, 0, 1), list(0, 2, 1, 3), list(7, 9, 8, 8), list(5, 7, 6, 8),
	}
	for _, a := range lists {
		for _, by := range []int{1, -1, 0, 2, -2, tooFar[1], tooFar[2]} {
			r := made(t, w.runs()...)
			name := fmt.Sprintf("Bump(%v, %d)", a, by)
			want, f := w.bump(a, by)
			if e := r.Bump(a, by); e != f {
				t.Errorf("%s = %d, want %d", name, e, f)
			}
			sameCells(t, r, want, name)
		}
	}
}

// P3.15.
func TestThereAndBack(t *testing.T) {
	for _, w := range smallRows(6) {
		r := made(t, w.runs()...)
		for p := range r.Shown() + 1 {
			c, _ := r.TotalOf(p)
			if got, e := r.ShownBefore(c); got != p || e != api.OK {
				t.Fatalf("%v: ShownBefore(TotalOf(%d)) = %d, %d", w.runs(), p, got, e)
			}
		}
		for c := range r.Total() + 1 {
			p, _ := r.ShownBefore(c)
			want := c
			for want < len(w) && w[want].Hid > 0 {
				want++
			}
			if got, e := r.TotalOf(p); got != want || e != api.OK {
				t.Fatalf("%v: TotalOf(ShownBefore(%d)) = %d, %d, want %d", w.runs(), c, got, e, want)
			}
		}
		emptied(t, r, w)
	}
}

// emptied: P3.15's last words.
func emptied(t *testing.T, r *rope.Rope, w row) {
	t.Helper()
	all, e := r.Visible(0, r.Shown())
	if e != api.OK {
		t.Fatalf("Visible of all %d visible cells: %d", r.Shown(), e)
	}
	if e := r.Bump(all, 1); e != api.OK || r.Text() != "" || r.Shown() != 0 || r.Total() != len(w) {
		t.Fatalf("all hidden: %d, %q, %d shown", e, r.Text(), r.Shown())
	}
	if e := r.Bump(all, -1); e != api.OK {
		t.Fatalf("all shown again: %d", e)
	}
	sameCells(t, r, w, "all hidden and shown again")
}
