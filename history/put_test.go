package history_test

import (
	"math"
	"strings"
	"testing"

	"redraft/api"
	"redraft/history"
)

func show(client, number int, ends ...int) api.Op {
	o := hide(client, number, ends...)
	o.Kind = api.Show
	return o
}

// refused: every Put of them is refused with its error, and the history is as it was.
func refused(t *testing.T, h *history.History, w order, cases ...step) {
	t.Helper()
	for _, c := range cases {
		x, e := h.Put(c.i, c.o)
		sameOp(t, x, e, nothing, c.e, "P6.3: Put(%d, %v)", c.i, c.o)
		agree(t, h, w)
	}
}

// some: "ab" of 1.1, "x" of 2.1 between the two, a Hide 2.2 of a and x, a Status 3.1 on it.
func some(t *testing.T) (*history.History, order) {
	t.Helper()
	return ofRun(t, ins(1, 1, 0, "ab"), ins(2, 1, 1, "x"), hide(2, 2, 0, 2), status(3, 1, api.ID{2, 2}, false))
}

func TestP6_3EachError(t *testing.T) {
	h, w := some(t)
	extra := ins(4, 1, 0, "q")
	extra.On = true
	refused(t, h, w,
		step{-1, ins(4, 1, 0, "q"), nothing, api.ErrPlace},
		step{5, ins(4, 1, 0, "q"), nothing, api.ErrPlace},
		step{math.MaxInt, ins(4, 1, 0, "q"), nothing, api.ErrPlace},
		step{math.MinInt, ins(4, 1, 0, "q"), nothing, api.ErrPlace},
		// op.Check's, against the cells that stand ahead of it
		step{4, api.Op{}, nothing, api.ErrKind},
		step{4, ins(9, 1, 0, "q"), nothing, api.ErrID},
		step{4, ins(1, 1025, 0, "q"), nothing, api.ErrID},
		step{4, extra, nothing, api.ErrExtra},
		step{4, ins(4, 1, 0, "\xff"), nothing, api.ErrUtf8},
		step{4, ins(4, 1, 0, "\x00"), nothing, api.ErrRune},
		step{4, ins(4, 1, 0, ""), nothing, api.ErrEmpty},
		step{4, ins(4, 1, 0, strings.Repeat("q", 257)), nothing, api.ErrLong},
		step{4, ins(4, 1, -1, "q"), nothing, api.ErrPlace},
		step{4, ins(4, 1, 4, "q"), nothing, api.ErrPlace},
		step{1, ins(4, 1, 3, "q"), nothing, api.ErrPlace},
		step{0, ins(4, 1, 1, "q"), nothing, api.ErrPlace},
		step{4, hide(4, 1), nothing, api.ErrNone},
		step{4, hide(4, 1, 1, 1), nothing, api.ErrRange},
		step{4, hide(4, 1, 0, 1, 1, 2), nothing, api.ErrOrder},
		step{4, hide(4, 1, 2, 4), nothing, api.ErrPlace},
		step{1, hide(4, 1, 2, 3), nothing, api.ErrPlace},
		step{0, hide(4, 1, 0, 1), nothing, api.ErrPlace},
		step{4, status(4, 1, api.ID{4, 1}, false), nothing, api.ErrTarget},
		step{4, status(4, 1, api.ID{}, false), nothing, api.ErrTarget},
		step{4, status(4, 1, api.ID{0, 1}, false), nothing, api.ErrTarget},
		// and the history's own
		step{4, show(4, 1, 0, 1), nothing, api.ErrKind},
		step{4, ins(0, 0, 0, "q"), nothing, api.ErrID},
		step{4, hide(0, 0, 0, 1), nothing, api.ErrID},
		step{4, status(0, 0, api.ID{1, 1}, false), nothing, api.ErrID},
		step{0, ins(2, 1, 0, "q"), nothing, api.ErrTwice},
		step{4, hide(1, 1, 0, 1), nothing, api.ErrTwice},
		step{4, status(2, 2, api.ID{1, 1}, false), nothing, api.ErrTwice},
		step{4, status(3, 1, api.ID{1, 1}, false), nothing, api.ErrTwice},
		step{4, status(4, 1, api.ID{5, 1}, false), nothing, api.ErrUnknown},
		step{2, status(4, 1, api.ID{2, 2}, false), nothing, api.ErrUnknown},
		step{0, status(4, 1, api.ID{1, 1}, false), nothing, api.ErrUnknown},
		step{4, status(4, 1, api.ID{3, 1}, false), nothing, api.ErrTarget},
	)
}

// Each of the errors together with those that the chapter names behind it.
func TestP6_3TheErrorNamedFirst(t *testing.T) {
	h, w := some(t)
	refused(t, h, w,
		step{-1, api.Op{}, nothing, api.ErrPlace},
		step{5, show(0, 0, 7, 8), nothing, api.ErrPlace},
		step{5, ins(1, 1, 0, "q"), nothing, api.ErrPlace},
		step{4, show(1, 1, 2, 2), nothing, api.ErrRange},
		step{4, show(0, 0, 3, 4), nothing, api.ErrPlace},
		step{4, hide(0, 0), nothing, api.ErrNone},
		step{0, ins(1, 1, 1, "q"), nothing, api.ErrPlace},
		step{4, status(1, 1, api.ID{1, 1}, true), nothing, api.ErrTarget},
		step{4, show(0, 0, 0, 1), nothing, api.ErrKind},
		step{4, show(1, 1, 0, 1), nothing, api.ErrKind},
		step{4, status(0, 0, api.ID{5, 1}, true), nothing, api.ErrID},
		step{4, status(1, 1, api.ID{5, 1}, true), nothing, api.ErrTwice},
		step{4, status(1, 1, api.ID{3, 1}, true), nothing, api.ErrTwice},
		step{3, status(4, 1, api.ID{3, 1}, true), nothing, api.ErrUnknown}, // a Status, but behind it
	)
}

// Each kind at the end, at the beginning and in the middle.
func TestP6_3EachKindEverywhere(t *testing.T) {
	for i := range 5 {
		for _, o := range []api.Op{ins(4, 1, 0, "pq"), ins(4, 1, 1, "pq"), ins(4, 1, 2, "pq"), ins(4, 1, 3, "pq"), hide(4, 1, 0, 1), hide(4, 1, 1, 2), hide(4, 1, 0, 2), hide(4, 1, 0, 3), hide(4, 1, 0, 1, 2, 3), status(4, 1, api.ID{1, 1}, false), status(4, 1, api.ID{1, 1}, true), status(4, 1, api.ID{2, 2}, false), status(4, 1, api.ID{2, 2}, true), status(4, 1, api.ID{2, 1}, false)} {
			h, w := some(t)
			next, want, f := w.wantPut(i, o)
			x, e := h.Put(i, o)
			sameOp(t, x, e, want, f, "P6.3: Put(%d, %v)", i, o)
			agree(t, h, next)
		}
	}
}

// Inserts at one place: whichever comes in last, the earlier one in the order stands left.
func TestP6_3InsertsAtOnePlace(t *testing.T) {
	h, w := ofRun(t, ins(1, 1, 0, "ad"), ins(3, 1, 1, "Z"))
	w = made(t, h, w, step{1, ins(2, 1, 1, "Y"), effect(api.Ins, 1, "Y"), api.OK})
	run, e := h.Ops(1, 3)
	sameRun(t, run, e, []api.Op{ins(2, 1, 1, "Y"), ins(3, 1, 2, "Z")}, api.OK, "rule 5: a Y Z d")
	w = made(t, h, w, step{1, ins(2, 2, 1, "x"), effect(api.Ins, 1, "x"), api.OK})
	run, e = h.Ops(1, 4)
	sameRun(t, run, e, []api.Op{ins(2, 2, 1, "x"), ins(2, 1, 2, "Y"), ins(3, 1, 3, "Z")}, api.OK, "rule 5: a x Y Z d")
	// ahead of the last one: it has stood ahead of d, behind Y, and goes behind what comes in there too
	w = made(t, h, w, step{3, ins(2, 3, 3, "v"), effect(api.Ins, 3, "v"), api.OK})
	// and behind all, at Z's place: ahead of Z
	made(t, h, w, step{5, ins(2, 4, 4, "w"), effect(api.Ins, 4, "w"), api.OK})
	run, e = h.Ops(0, 6)
	sameRun(t, run, e, []api.Op{ins(1, 1, 0, "ad"), ins(2, 2, 1, "x"), ins(2, 1, 2, "Y"), ins(2, 3, 3, "v"), ins(3, 1, 4, "Z"), ins(2, 4, 4, "w")}, api.OK, "rule 5: a x Y v w Z d")
}

// At the end of the row too: two who type at the end at once.
func TestP6_3InsertsAtTheEnd(t *testing.T) {
	h, w := ofRun(t, ins(1, 1, 0, "a"), ins(1, 2, 1, "b"), ins(1, 3, 2, "c"))
	made(t, h, w, step{1, ins(2, 1, 1, "xy"), effect(api.Ins, 1, "xy"), api.OK})
	run, e := h.Ops(0, 4)
	sameRun(t, run, e, []api.Op{ins(1, 1, 0, "a"), ins(2, 1, 1, "xy"), ins(1, 2, 3, "b"), ins(1, 3, 4, "c")}, api.OK, "rule 5: a xy b c")
	h, w = ofRun(t, ins(1, 1, 0, "a"), ins(1, 2, 0, "b"))
	made(t, h, w, step{0, ins(2, 1, 0, "xy"), effect(api.Ins, 0, "xy"), api.OK})
	x, e := h.Entry(1)
	sameEntry(t, x, e, api.Entry{ID: api.ID{1, 1}, Kind: api.Ins, On: true, Ranges: list(3, 4)}, api.OK, "rule 5: xy b a")
}

// A Hide's ranges are split by inserts ahead of it and behind it; its form by the former alone, its places by both; Erase puts them together.
func TestHideSplitAndJoined(t *testing.T) {
	h, w := ofRun(t, ins(1, 1, 0, "abcd"), hide(1, 2, 0, 4))
	w = made(t, h, w,
		step{1, ins(2, 1, 2, "xy"), effect(api.Ins, 2, "xy"), api.OK},
		step{3, ins(2, 2, 1, "z"), effect(api.Ins, 1, "z"), api.OK})
	run, e := h.Ops(2, 3)
	sameRun(t, run, e, []api.Op{hide(1, 2, 0, 2, 4, 6)}, api.OK, "P6.3: the Hide in its context")
	x, e := h.Entry(2)
	sameEntry(t, x, e, api.Entry{ID: api.ID{1, 2}, Kind: api.Hide, On: true, Ranges: list(0, 1, 2, 3, 5, 7)}, api.OK, "P6.4: the Hide today")
	erased(t, h, api.ID{2, 1}, api.OK, ins(1, 1, 0, "abcd"), hide(1, 2, 0, 4), ins(2, 2, 1, "z"))
	erased(t, h, api.ID{2, 2}, api.OK, ins(1, 1, 0, "abcd"), ins(2, 1, 2, "xy"), hide(1, 2, 0, 2, 4, 6))
	made(t, h, w, step{1, hide(3, 1, 0, 1, 2, 3), effect(api.Hide, 0, "", 0, 1, 5, 6), api.OK})
	got, e := h.Effect(api.ID{3, 1}, false)
	sameOp(t, got, e, effect(api.Show, 0, "", 0, 1, 5, 6), api.OK, "P6.6: of a Hide that came in ahead")
}

// A Status that comes in ahead of another one on its target has no effect; without another one it turns, wherever it stands.
func TestStatusAheadOfStatus(t *testing.T) {
	h, w := ofRun(t, ins(1, 1, 0, "ab"), hide(1, 2, 0, 1), ins(1, 3, 1, "c"))
	w = made(t, h, w,
		step{1, status(2, 1, api.ID{1, 1}, false), effect(api.Hide, 0, "", 0, 1, 2, 3), api.OK},
		step{1, status(2, 2, api.ID{1, 1}, true), nothing, api.OK},  // 2.1 decides
		step{1, status(2, 3, api.ID{1, 1}, false), nothing, api.OK}, // and it stood so
		step{6, status(2, 4, api.ID{1, 2}, false), effect(api.Show, 0, "", 0, 1), api.OK},
		step{7, status(2, 5, api.ID{1, 2}, false), nothing, api.OK},
		step{6, status(2, 6, api.ID{1, 2}, true), nothing, api.OK},
		step{9, status(2, 7, api.ID{1, 1}, true), effect(api.Show, 0, "", 0, 1, 2, 3), api.OK},
		step{10, status(2, 8, api.ID{1, 1}, true), nothing, api.OK},
		step{11, status(2, 9, api.ID{1, 2}, true), effect(api.Hide, 0, "", 0, 1), api.OK},
		step{8, status(3, 1, api.ID{1, 3}, false), effect(api.Hide, 0, "", 1, 2), api.OK},
		step{6, status(3, 2, api.ID{1, 3}, true), nothing, api.OK})
	// an edit that is off is carried as one that is on
	made(t, h, w,
		step{1, ins(4, 1, 1, "QR"), effect(api.Ins, 1, "QR"), api.OK},
		step{len(w) + 1, status(4, 2, api.ID{1, 1}, false), effect(api.Hide, 0, "", 0, 1, 4, 5), api.OK})
	x, e := h.Entry(0)
	sameEntry(t, x, e, api.Entry{ID: api.ID{1, 1}, Kind: api.Ins, On: false, Ranges: list(0, 1, 4, 5)}, api.OK, "P6.4: an Ins that is off")
}

// Targets that have one of their two numbers in common are not the same.
func TestTargetsAreComparedWhole(t *testing.T) {
	h, w := ofRun(t, ins(1, 2, 0, "a"), ins(2, 1, 0, "b"), ins(1, 1, 0, "c"), ins(2, 2, 0, "d"))
	made(t, h, w,
		step{4, status(3, 1, api.ID{1, 1}, false), effect(api.Hide, 0, "", 1, 2), api.OK},
		step{4, status(3, 2, api.ID{1, 2}, false), effect(api.Hide, 0, "", 3, 4), api.OK},
		step{4, status(3, 3, api.ID{2, 1}, false), effect(api.Hide, 0, "", 2, 3), api.OK},
		step{4, status(3, 4, api.ID{2, 2}, false), effect(api.Hide, 0, "", 0, 1), api.OK})
}

// Numbers far beside all bounds: nothing panics, nothing is taken that op.Check refuses.
func TestP6_1OddNumbers(t *testing.T) {
	h, w := some(t)
	odd := append([]int{0, 1, 2, 4}, far...)
	for _, a := range odd {
		for _, b := range odd {
			for _, o := range []api.Op{
				ins(4, 1, a, "q"), ins(a, b, 0, "q"), hide(4, 1, a, b), hide(a, b, 0, 1), hide(4, 1, 0, 1, a, b), show(a, b, 0, 1),
				status(4, 1, api.ID{a, b}, true), status(a, b, api.ID{1, 1}, true), {Head: api.Head{ID: api.ID{4, 1}, Kind: api.Kind(a)}, At: b},
			} {
				for _, i := range []int{b, 4} {
					_, want, f := w.wantPut(i, o)
					if f == api.OK {
						continue
					}
					x, e := h.Put(i, o)
					sameOp(t, x, e, want, f, "P6.3: Put(%d, %v)", i, o)
				}
			}
		}
	}
	agree(t, h, w)
}
