package op_test

import (
	"fmt"
	"math/rand"
	"slices"
	"strings"
	"testing"

	"redraft/api"
	"redraft/op"
	"redraft/rope"
)

// O6: the chapter's example.
func TestApplyExample(t *testing.T) {
	r := made(t, api.Run{Text: "a"}, api.Run{Text: "b", Hid: 1}, api.Run{Text: "c"})
	last := hide(2, 1, 0, 1, 2, 4)
	back, _ := op.Inverse(last)
	for _, c := range []struct {
		o    api.Op
		e    api.Errno
		text string
	}{
		{ins(1, 1, 2, "x"), api.OK, "axc"}, {show(0, 0, 1, 3), api.ErrBelow, "axc"}, {show(0, 0, 1, 2), api.OK, "abxc"}, {last, api.OK, "b"}, {back, api.OK, "abxc"},
	} {
		if e := op.Apply(r, c.o); e != c.e || r.Text() != c.text || r.Total() != 4 {
			t.Fatalf("O6: Apply(.., %v) = %d, text %q, %d cells, want %d, %q", c.o, e, r.Text(), r.Total(), c.e, c.text)
		}
	}
}

// O6: the cells themselves: an Ins stands ahead of the cell at At, tombstones and all, with the counter 0.
func TestApplyCells(t *testing.T) {
	runs := []api.Run{{Text: "ab", Hid: 2}, {Text: "c"}, {Text: "d", Hid: 1}}
	for _, o := range []api.Op{
		ins(1, 1, 0, "\u00e9\n"), ins(1, 1, 1, "x"), ins(1, 1, 2, "x"), ins(1, 1, 3, "xyz"), ins(0, 0, 4, "\U0001f600"), ins(1, 1, 5, "x"), ins(1, 1, 0, strings.Repeat("q", 256)), ins(1, 1, 0, strings.Repeat("q", 257)),
		hide(1, 1, 0, 4), hide(1, 1, 0, 1, 3, 4), hide(1, 1, 3, 5), hide(1, 1), show(0, 0, 0, 2), show(3, 3, 0, 2, 3, 4), show(0, 0, 0, 3), show(0, 0, 2, 3), show(0, 0, 3, 5),
		status(1, 2, 1, 1, true), status(1, 2, 1, 1, false), status(1, 2, 1, 2, false), {},
	} {
		r := made(t, runs...)
		want, f := rowOf(r).apply(o)
		if e := op.Apply(r, o); e != f {
			t.Errorf("O6: Apply(.., %.99v) = %d, want %d", o, e, f)
		}
		sameRow(t, r, want, fmt.Sprintf("O6: Apply(.., %.99v)", o))
	}
}

// O6, rule 12: nil ahead of everything else.
func TestApplyNil(t *testing.T) {
	for _, o := range append(rightOps(), wrongOps()...) {
		if e := op.Apply(nil, o); e != api.ErrHandle {
			t.Errorf("O6: Apply(nil, %.99v) = %d, want ErrHandle", o, e)
		}
	}
}

// O6: each error that Check has, ErrKind behind these, and counters at their ends; the rope stays as it was.
func TestApplyRefused(t *testing.T) {
	runs := []api.Run{{Text: "ab", Hid: 1}, {Text: "c"}, {Text: "de", Hid: api.MaxHid}, {Text: "f", Hid: api.MaxHid - 1}}
	r := made(t, runs...)
	ops := []api.Op{
		status(1, 2, 1, 1, true), status(0, 0, 1, 1, false), status(1, 2, 1, 2, true), with(status(1, 2, 1, 1, true), func(o *api.Op) { o.Text = "a" }),
		show(0, 0, 0, 3), show(1, 1, 2, 3), show(0, 0, 0, 1, 2, 4), show(0, 0, 2, 7), hide(1, 1, 3, 4), hide(0, 0, 0, 6), hide(1, 1, 0, 1, 4, 5), hide(1, 1, 3, 7), ins(1, 1, 7, "a"),
	}
	for _, o := range append(ops, wrongOps()...) {
		want, f := rowOf(r).apply(o)
		if e := op.Apply(r, o); e != f || f == api.OK {
			t.Errorf("O6: Apply(.., %.99v) = %d, want %d", o, e, f)
		}
		sameRow(t, r, want, fmt.Sprintf("O6: a refused Apply(.., %.99v)", o))
		if got := r.Runs(); !slices.Equal(got, runs) {
			t.Fatalf("O6: a refused Apply(.., %.99v) made %v", o, got)
		}
	}
	for _, c := range []struct {
		o api.Op
		e api.Errno
	}{
		{show(0, 0, 0, 3), api.ErrBelow}, {hide(1, 1, 3, 4), api.ErrAbove}, {hide(1, 1, 0, 1, 4, 5), api.ErrAbove}, {status(1, 2, 1, 1, true), api.ErrKind}, {status(1, 2, 1, 2, true), api.ErrTarget}, {show(0, 0, 2, 7), api.ErrPlace},
		{hide(1, 1, 0, 3, 5, 6), api.OK}, {show(0, 0, 0, 3, 5, 6), api.OK},
	} {
		if e := op.Apply(r, c.o); e != c.e {
			t.Errorf("O6: Apply(.., %v) = %d, want %d", c.o, e, c.e)
		}
	}
}

// O6: a rope that is nearly full, and full; a rope without cells.
func TestApplyLimits(t *testing.T) {
	r := made(t, api.Run{Text: strings.Repeat("z", end-1), Hid: 1})
	for _, c := range []struct {
		o api.Op
		e api.Errno
		n int
	}{
		{ins(1, 1, 5, "ab"), api.ErrGrow, end - 1}, {ins(1, 1, end, "a"), api.ErrPlace, end - 1}, {hide(1, 1, 0, end), api.ErrPlace, end - 1}, {ins(1, 1, end-1, "a"), api.OK, end},
		{ins(1, 2, 0, "b"), api.ErrGrow, end}, {ins(1, 2, end, "b"), api.ErrGrow, end}, {ins(1, 2, end+1, "b"), api.ErrPlace, end}, {hide(1, 1, 0, end), api.OK, end}, {show(0, 0, 0, end), api.OK, end}, {show(0, 0, 0, end), api.ErrBelow, end},
	} {
		if e := op.Apply(r, c.o); e != c.e || r.Total() != c.n {
			t.Errorf("O6: Apply(.., %v) = %d, %d cells, want %d, %d", c.o, e, r.Total(), c.e, c.n)
		}
	}
	many := api.Op{Head: head(1, 1, api.Hide), Ranges: teeth(1, api.MaxRanges)}
	if e := op.Apply(r, many); e != api.OK || r.Text() != "a" {
		t.Errorf("O6: a Hide of MaxRanges ranges = %d, %q", e, r.Text())
	}
	none := rope.New()
	for _, o := range []api.Op{hide(1, 1, 0, 1), show(1, 1, 0, 1), ins(1, 1, 1, "a")} {
		if e := op.Apply(none, o); e != api.ErrPlace || none.Total() != 0 {
			t.Errorf("O6: Apply to no cells: %v = %d", o, e)
		}
	}
	if e := op.Apply(none, ins(1, 1, 0, "a")); e != api.OK || none.Text() != "a" {
		t.Errorf("O6: the first cell: %d, %q", e, none.Text())
	}
}

// O6, rule 11: what is handed in stays as it is, and is not kept.
func TestApplyKeepsNothing(t *testing.T) {
	r := made(t, api.Run{Text: "abcdef"})
	o := roomy(hide(1, 1, 0, 1, 2, 4))
	was := slices.Clone(o.Ranges[:cap(o.Ranges)])
	if e := op.Apply(r, o); e != api.OK || !slices.Equal(o.Ranges[:cap(o.Ranges)], was) {
		t.Errorf("O6: Apply = %d, its operation is %v now", e, o)
	}
	scribble(o.Ranges)
	if r.Text() != "bef" {
		t.Errorf("O6: the rope has kept the ranges: %q", r.Text())
	}
}

// O7: of each kind, and with an error of its own.
func TestInverse(t *testing.T) {
	many := teeth(0, api.MaxRanges)
	for _, c := range []struct{ o, want api.Op }{
		{ins(1, 1, 3, "h\u00e9"), hide(0, 0, 3, 5)}, {ins(0, 0, 0, "a"), hide(0, 0, 0, 1)}, {ins(1, 1, end-1, "a"), hide(0, 0, end-1, end)}, {ins(1, 1, 7, strings.Repeat("\u20ac", 256)), hide(0, 0, 7, 263)},
		{show(0, 0, 3, 5), hide(0, 0, 3, 5)}, {show(4, 5, 0, 1, 3, end), hide(0, 0, 0, 1, 3, end)}, {hide(1, 1, 3, 5), show(0, 0, 3, 5)}, {hide(0, 0, 0, 1, 3, end), show(0, 0, 0, 1, 3, end)},
		{api.Op{Head: head(1, 1, api.Hide), Ranges: many}, api.Op{Head: head(0, 0, api.Show), Ranges: many}},
		{status(1, 4, 2, 1, false), status(0, 0, 2, 1, true)}, {status(1, 4, 2, 1, true), status(0, 0, 2, 1, false)}, {status(0, 0, 8, 1024, true), status(0, 0, 8, 1024, false)},
	} {
		if got, e := op.Inverse(c.o); !same(got, c.want) || e != api.OK {
			t.Errorf("O7: Inverse(%.99v) = %.99v, %d, want %.99v", c.o, got, e, c.want)
		}
	}
	for _, o := range append(rightOps(), wrongOps()...) {
		got, e := op.Inverse(o)
		if want := wantOwn(o); e != want || e != api.OK && !same(got, api.Op{}) {
			t.Errorf("O7: Inverse(%.99v) = %.99v, %d, want %d", o, got, e, want)
		}
	}
}

// O7: what is answered is right itself, and its own inverse takes it back again.
func TestInverseTwice(t *testing.T) {
	for _, o := range rightOps() {
		back, _ := op.Inverse(o)
		again, e := op.Inverse(back)
		if e != api.OK || wantOwn(back) != api.OK || back.ID != (api.ID{}) {
			t.Errorf("O7: Inverse(%.99v) = %.99v, which is not right: %d", o, back, e)
		}
		if o.Kind != api.Ins && !same(again, with(o, func(o *api.Op) { o.ID = api.ID{} })) {
			t.Errorf("O7: Inverse(Inverse(%.99v)) = %.99v", o, again)
		}
	}
}

// randomOp: an operation that mostly fits a row of n cells.
func randomOp(rnd *rand.Rand, n int) api.Op {
	o := api.Op{Head: head(1+rnd.Intn(8), 1+rnd.Intn(1024), api.Kind(1+rnd.Intn(3)))}
	if o.Kind == api.Ins {
		o.At, o.Text = rnd.Intn(n+1), []string{"a", "\u00e9x", "\U0001f600\n-"}[rnd.Intn(3)]
		return o
	}
	for at := rnd.Intn(4); at < n; {
		to := at + 1 + rnd.Intn(4)
		o.Ranges = append(o.Ranges, api.Range{Lo: at, Hi: to})
		at = to + 1 + rnd.Intn(6)
	}
	return o
}

// O6, O7: rows of operations at random against the row of cells, and each one's inverse right behind it: the text is again what it was, and but for what an Ins put in the cells are too.
func TestApplyScripts(t *testing.T) {
	rnd := rand.New(rand.NewSource(4))
	for range 60 {
		r, w := rope.New(), row{}
		for range 60 {
			o := randomOp(rnd, len(w))
			next, f := w.apply(o)
			if e := op.Apply(r, o); e != f {
				t.Fatalf("O6: Apply(.., %v) = %d, want %d", o, e, f)
			}
			sameRow(t, r, next, fmt.Sprint("O6: Apply(.., ", o, ")"))
			if f == api.OK {
				sameBack(t, r.Copy(), o, w)
			}
			w = next
		}
	}
}

// sameBack: does o's inverse, applied to r right behind o, bring back w?
func sameBack(t *testing.T, r *rope.Rope, o api.Op, w row) {
	t.Helper()
	back, e := op.Inverse(o)
	if e != api.OK {
		t.Fatalf("O7: Inverse(%v) = %d", o, e)
	}
	if e := op.Apply(r, back); e != api.OK || r.Text() != w.text() {
		t.Fatalf("O7: %v, then %v = %d: text %q, want %q", o, back, e, r.Text(), w.text())
	}
	if o.Kind != api.Ins {
		sameRow(t, r, w, fmt.Sprint("O7: ", o, ", then ", back))
		return
	}
	to := o.At + len([]rune(o.Text))
	if got := rowOf(r); !slices.Equal(slices.Concat(got[:o.At], got[to:]), w) || slices.ContainsFunc(got[o.At:to], func(c api.Cell) bool { return c.Hid != 1 }) {
		t.Fatalf("O7: %v, then %v: cells %v", o, back, got)
	}
}
