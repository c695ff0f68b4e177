package xform_test

import (
	"math/rand"
	"slices"
	"testing"

	"redraft/api"
	"redraft/op"
	"redraft/xform"
)

// A row of cells on its own: counters are whole numbers, also below 0. Each operation's runes are its own, so that a rune names its cell.
type row []api.Cell

// context: n cells that were there.
func context(n int) row {
	var out row
	for i := range n {
		out = append(out, api.Cell{Rune: rune('0' + i)})
	}
	return out
}

func (r row) behind(run ...api.Op) row {
	out := slices.Clone(r)
	for _, o := range run {
		switch o.Kind {
		case api.Ins:
			var cells row
			for _, c := range o.Text {
				cells = append(cells, api.Cell{Rune: c})
			}
			out = slices.Insert(out, o.At, cells...)
		case api.Hide:
			for _, q := range places(o.Ranges) {
				out[q].Hid++
			}
		case api.Show:
			for _, q := range places(o.Ranges) {
				out[q].Hid--
			}
		}
	}
	return out
}

// madeIn: every operation that can be made where there are n cells: inserts of one and two runes, Hides and Shows of each set of cells, Status commands.
func madeIn(n int, id api.ID, text string, targets ...api.ID) []api.Op {
	var out []api.Op
	for at := 0; at <= n; at++ {
		out = append(out, ins(id, at, text[:1]), ins(id, at, text[:2]))
	}
	for bits := 1; bits < 1<<n; bits++ {
		var at []int
		for q := range n {
			if bits>>q&1 == 1 {
				at = append(at, q)
			}
		}
		out = append(out, cover(id, api.Hide, rangesOf(at)...), cover(id, api.Show, rangesOf(at)...))
	}
	for _, target := range targets {
		out = append(out, status(id, target, false), status(id, target, true))
	}
	return out
}

// accepted: nothing is refused in small contexts but where the chapter says so.
func accepted(t *testing.T, e api.Errno, what string, args ...any) bool {
	t.Helper()
	if e != api.OK {
		t.Errorf(what+" is refused with %d", append(args, int(e))...)
	}
	return e == api.OK
}

func TestP5_10TwoOperations(t *testing.T) {
	for n := range 5 {
		was := context(n)
		for _, a := range madeIn(n, a1, "ab", a3) {
			for _, b := range madeIn(n, b1, "xy", a3, a1) {
				late, e := xform.Include(b, a, true)
				early, f := xform.Include(a, b, false)
				if !accepted(t, e, "P5.10: Include(%v, %v, true)", b, a) || !accepted(t, f, "P5.10: Include(%v, %v, false)", a, b) {
					continue
				}
				x, y := was.behind(a, late), was.behind(b, early)
				if !slices.Equal(x, y) {
					t.Errorf("P5.10: %v and %v in %d cells make %v and %v", a, b, n, x, y)
				}
			}
		}
	}
}

// Of two inserts at one place the earlier one stands left, the later one ahead of the cell that was at its right (DOC.md, rule 5).
func TestRule5EarlierStandsLeft(t *testing.T) {
	for at := range 4 {
		early, late := ins(a1, at, "ab"), ins(b1, at, "xy")
		now, _ := xform.Include(late, early, true)
		got := context(3).behind(early, now)
		want := slices.Insert(context(3), at, row{{Rune: 'a'}, {Rune: 'b'}, {Rune: 'x'}, {Rune: 'y'}}...)
		if !slices.Equal(got, want) {
			t.Errorf("rule 5: at %d they make %v", at, got)
		}
	}
}

func sameRows(t *testing.T, was row, first, later []api.Op) {
	t.Helper()
	f, l, e := xform.Cross(first, later)
	if !accepted(t, e, "P5.11: Cross(%v, %v)", first, later) {
		return
	}
	x, y := was.behind(first...).behind(l...), was.behind(later...).behind(f...)
	if !slices.Equal(x, y) {
		t.Errorf("P5.11: %v and %v make %v and %v", first, later, x, y)
	}
}

// Every two runs of one and of two operations in a few cells.
func TestP5_11SmallRuns(t *testing.T) {
	runs := func(n int, one, two api.ID, text string) [][]api.Op {
		out := [][]api.Op{nil}
		for _, o := range madeIn(n, one, text[:2]) {
			out = append(out, []api.Op{o})
			if op.Width(o) > 1 {
				continue
			}
			for _, p := range madeIn(n+op.Width(o), two, text[2:], one) {
				out = append(out, []api.Op{o, p})
			}
		}
		return out
	}
	for n := range 3 {
		for _, first := range runs(n, a1, a2, "abcd") {
			for _, later := range runs(n, b1, b2, "wxyz") {
				sameRows(t, context(n), first, later)
			}
		}
	}
}

func randomRun(r *rand.Rand, n, client int, next *rune) []api.Op {
	var out []api.Op
	for i := range r.Intn(6) {
		id := api.ID{client, i + 1}
		text := string([]rune{*next, *next + 1})
		*next += 2
		var all []api.Op
		if n > 5 {
			lo := r.Intn(n)
			all = []api.Op{ins(id, r.Intn(n+1), text), hide(id, lo, lo+1+r.Intn(n-lo)), show(id, 0, 1, 2, 3, n-2, n), status(id, api.ID{3, 1}, true)}
		} else {
			all = madeIn(n, id, text)
		}
		o := all[r.Intn(len(all))]
		n += op.Width(o)
		out = append(out, o)
	}
	return out
}

func TestP5_11LongerRuns(t *testing.T) {
	r := rand.New(rand.NewSource(511))
	for range 40000 {
		n, next := r.Intn(5), 'A'
		first := randomRun(r, n, 1, &next)
		later := randomRun(r, n, 2, &next)
		sameRows(t, context(n), first, later)
	}
}

func TestP5_12Transposing(t *testing.T) {
	for n := range 4 {
		was := context(n)
		for _, a := range madeIn(n, a1, "ab", a3) {
			for _, b := range madeIn(n+op.Width(a), b1, "xy", a3, b2) {
				c, d, e := xform.Transpose(a, b)
				if e != api.OK {
					mayRefuse(t, a, b, e)
					continue
				}
				if x, y := was.behind(a, b), was.behind(c, d); !slices.Equal(x, y) {
					t.Errorf("P5.12: %v, %v make %v, transposed %v", a, b, x, y)
				}
				x, y, e := xform.Transpose(c, d)
				sameRun(t, []api.Op{x, y}, e, []api.Op{a, b}, api.OK, "P5.12: Transpose(%v, %v)", c, d)
			}
		}
	}
}

// mayRefuse: in small contexts only what stands in or covers a's cells, or a Status against another, is refused.
func mayRefuse(t *testing.T, a, b api.Op, e api.Errno) {
	t.Helper()
	against := a.Kind == api.Status && b.Kind == api.Status && a.Target == b.Target && a.On != b.On
	in := a.Kind == api.Ins && (b.Kind == api.Ins && a.At < b.At && b.At < a.At+runes(a) || slices.ContainsFunc(places(b.Ranges), func(q int) bool { return a.At <= q && q < a.At+runes(a) }))
	if !(e == api.ErrClash && against || e == api.ErrInside && in) {
		t.Errorf("P5.12: Transpose(%v, %v) is refused with %d", a, b, e)
	}
}

func TestP5_13ThereAndBack(t *testing.T) {
	for n := range 5 {
		for _, a := range madeIn(n, a1, "ab", a3, b1) {
			for _, b := range madeIn(n, b1, "xy", a3) {
				for _, earlier := range []bool{false, true} {
					there, e := xform.Include(a, b, earlier)
					if !accepted(t, e, "P5.13: Include(%v, %v, %v)", a, b, earlier) {
						continue
					}
					f := api.OK
					if a.Kind == api.Status && a.Target == b.ID {
						f = api.ErrInside
					}
					got, e := xform.Exclude(there, b)
					sameOp(t, got, e, a, f, "P5.13: Exclude(Include(%v, %v, %v), ..)", a, b, earlier)
				}
			}
		}
	}
}

func TestP5_14TheCellAtTheLeft(t *testing.T) {
	for n := range 6 {
		was := context(n)
		for _, o := range madeIn(n, a1, "xy", b1) {
			for c := range n + 1 {
				got, e := xform.Caret(c, o)
				if !accepted(t, e, "P5.14: Caret(%d, %v)", c, o) {
					continue
				}
				if c == 0 && got != 0 || c > 0 && was.behind(o)[got-1].Rune != was[c-1].Rune {
					t.Errorf("P5.14: Caret(%d, %v) = %d stands behind another cell", c, o, got)
				}
			}
		}
	}
}
