package history_test

import (
	"math"
	"testing"

	"redraft/api"
	"redraft/history"
)

var far = []int{math.MinInt, math.MinInt + 1, -1 << 32, -2, -1, 1 << 32, math.MaxInt - 1, math.MaxInt}

func TestP6_2New(t *testing.T) {
	h, other := history.New(), history.New()
	agree(t, h, nil)
	if _, e := h.Put(0, ins(1, 1, 0, "abc")); e != api.OK {
		t.Errorf("P6.3: Put into a new history is refused with %d", e)
	}
	agree(t, other, nil)
	agree(t, history.New(), nil)
	run, e := other.Ops(0, 0)
	sameRun(t, run, e, nil, api.OK, "P6.7: Ops(0, 0) of no commands")
	for _, n := range append([]int{0, 1}, far...) {
		x, e := other.Entry(n)
		sameEntry(t, x, e, api.Entry{}, api.ErrPlace, "P6.4: Entry(%d) of no commands", n)
		sameNumber(t, other.Last(n), api.OK, 0, api.OK, "P6.9: Last(%d) of no commands", n)
	}
}

func TestP6_4EntryBesideItsBounds(t *testing.T) {
	h, w := some(t)
	for _, i := range append([]int{4, 5}, far...) {
		x, e := h.Entry(i)
		sameEntry(t, x, e, api.Entry{}, api.ErrPlace, "P6.4: Entry(%d)", i)
	}
	x, e := h.Entry(3)
	sameEntry(t, x, e, api.Entry{ID: api.ID{3, 1}, Kind: api.Status, Target: api.ID{2, 2}}, api.OK, "P6.4: Entry of a Status")
	// a Status tells what it was made with, also where another one decides
	made(t, h, w, step{4, status(3, 2, api.ID{2, 2}, true), effect(api.Hide, 0, "", 0, 2), api.OK})
	for i, on := range []bool{true, true, true, false, true} {
		if x, e = h.Entry(i); e != api.OK || x.On != on {
			t.Errorf("P6.4: Entry(%d) = %v, %d", i, x, e)
		}
	}
}

// noIDs: ids that name none here: none at all, no client's, no number's, turned round.
func noIDs() []api.ID {
	out := []api.ID{{}, {1, 2}, {8, 1}, {1, 0}, {0, 1}, {2, 3}, {9, 1}, {1, 1025}, {1, 3}, {4, 1}}
	for _, n := range far {
		out = append(out, api.ID{n, 1}, api.ID{1, n}, api.ID{n, n}, api.ID{2, n})
	}
	return out
}

func TestIDsThatNobodyHas(t *testing.T) {
	h, w := some(t)
	for _, id := range noIDs() {
		n, e := h.Find(id)
		sameNumber(t, n, e, 0, api.ErrUnknown, "P6.5: Find(%v)", id)
		for _, on := range []bool{false, true} {
			x, e := h.Effect(id, on)
			sameOp(t, x, e, nothing, api.ErrUnknown, "P6.6: Effect(%v, %v)", id, on)
		}
		erased(t, h, id, api.ErrUnknown)
	}
	agree(t, h, w)
}

func TestP6_6AndP6_8OfAStatus(t *testing.T) {
	h, _ := some(t)
	for _, on := range []bool{false, true} {
		x, e := h.Effect(api.ID{3, 1}, on)
		sameOp(t, x, e, nothing, api.ErrTarget, "P6.6: Effect of a Status, %v", on)
	}
	erased(t, h, api.ID{3, 1}, api.ErrTarget)
}

// Of each kind of edit, on and off, both ways.
func TestP6_6Effect(t *testing.T) {
	h, _ := ofRun(t, ins(1, 1, 0, "ab"), ins(1, 2, 1, "c"), hide(1, 3, 0, 2), hide(1, 4, 2, 3), status(2, 1, api.ID{1, 2}, false), status(2, 2, api.ID{1, 4}, false))
	for _, c := range []struct {
		number int
		on     bool
		want   api.Op
		e      api.Errno
	}{
		{1, false, effect(api.Hide, 0, "", 0, 1, 2, 3), api.OK},
		{1, true, nothing, api.ErrTurned},
		{2, false, nothing, api.ErrTurned},
		{2, true, effect(api.Show, 0, "", 1, 2), api.OK},
		{3, false, effect(api.Show, 0, "", 0, 2), api.OK},
		{3, true, nothing, api.ErrTurned},
		{4, false, nothing, api.ErrTurned},
		{4, true, effect(api.Hide, 0, "", 2, 3), api.OK},
	} {
		x, e := h.Effect(api.ID{1, c.number}, c.on)
		sameOp(t, x, e, c.want, c.e, "P6.6: Effect([1,%d], %v)", c.number, c.on)
	}
}

func TestP6_7OpsAtAllBounds(t *testing.T) {
	h, w := some(t)
	want := w.ops()
	for lo := -2; lo <= 6; lo++ {
		for hi := -2; hi <= 6; hi++ {
			got, e := h.Ops(lo, hi)
			if lo < 0 || lo > hi || hi > 4 {
				sameRun(t, got, e, nil, api.ErrPlace, "P6.7: Ops(%d, %d)", lo, hi)
			} else {
				sameRun(t, got, e, want[lo:hi], api.OK, "P6.7: Ops(%d, %d)", lo, hi)
			}
		}
	}
	for _, n := range far {
		for _, c := range [][2]int{{n, 0}, {0, n}, {n, n}, {n, 4}, {4, n}} {
			got, e := h.Ops(c[0], c[1])
			sameRun(t, got, e, nil, api.ErrPlace, "P6.7: Ops(%d, %d)", c[0], c[1])
		}
	}
}

// P6.8: each side of an Ins' cells, and each way of standing on them.
func TestP6_8Erase(t *testing.T) {
	first := []api.Op{ins(1, 1, 0, "ad"), ins(1, 2, 1, "bc")}
	for _, c := range []struct {
		o    api.Op
		e    api.Errno
		want api.Op
	}{
		{ins(2, 1, 0, "x"), api.OK, ins(2, 1, 0, "x")},
		{ins(2, 1, 1, "x"), api.OK, ins(2, 1, 1, "x")},
		{ins(2, 1, 2, "x"), api.ErrInside, nothing},
		{ins(2, 1, 3, "x"), api.OK, ins(2, 1, 1, "x")},
		{ins(2, 1, 4, "x"), api.OK, ins(2, 1, 2, "x")},
		{hide(2, 1, 0, 1), api.OK, hide(2, 1, 0, 1)},
		{hide(2, 1, 1, 2), api.ErrInside, nothing},
		{hide(2, 1, 2, 3), api.ErrInside, nothing},
		{hide(2, 1, 3, 4), api.OK, hide(2, 1, 1, 2)},
		{hide(2, 1, 0, 1, 3, 4), api.OK, hide(2, 1, 0, 2)},
		{hide(2, 1, 0, 1, 2, 3), api.ErrInside, nothing},
		{status(2, 1, api.ID{1, 1}, false), api.OK, status(2, 1, api.ID{1, 1}, false)},
	} {
		h, _ := ofRun(t, append(first, c.o)...)
		if c.e != api.OK {
			erased(t, h, api.ID{1, 2}, c.e)
		} else {
			erased(t, h, api.ID{1, 2}, api.OK, first[0], c.want)
		}
	}
	// an edit of one rune has no two cells to stand between
	h, _ := ofRun(t, ins(1, 1, 0, "ad"), ins(1, 2, 1, "b"), ins(2, 1, 1, "x"), ins(2, 2, 3, "y"), hide(2, 3, 1, 2))
	erased(t, h, api.ID{1, 2}, api.OK, ins(1, 1, 0, "ad"), ins(2, 1, 1, "x"), ins(2, 2, 2, "y"), hide(2, 3, 1, 2))
	// what stands on the edit's cells only behind a Status, or off, stands on them all the same
	h, _ = ofRun(t, ins(1, 1, 0, "ab"), hide(2, 1, 0, 1), status(2, 2, api.ID{2, 1}, false))
	erased(t, h, api.ID{1, 1}, api.ErrInside)
	erased(t, h, api.ID{2, 1}, api.OK, ins(1, 1, 0, "ab"))
	// the only one
	h, _ = ofRun(t, ins(1, 1, 0, "ab"))
	erased(t, h, api.ID{1, 1}, api.OK)
	h, _ = ofRun(t, ins(1, 1, 0, "ab"), status(1, 2, api.ID{1, 1}, false), status(1, 3, api.ID{1, 1}, true))
	erased(t, h, api.ID{1, 1}, api.OK)
}

func TestP6_9Last(t *testing.T) {
	h, _ := ofRun(t, ins(3, 1000, 0, "ab"), hide(3, 7, 0, 1), status(8, 1024, api.ID{3, 7}, false), ins(1, 5, 0, "x"), ins(1, 2, 0, "x"))
	for client, want := range map[int]int{1: 5, 2: 0, 3: 1000, 7: 0, 8: 1024, 9: 0, 0: 0, 1000: 0, 1024: 0} {
		sameNumber(t, h.Last(client), api.OK, want, api.OK, "P6.9: Last(%d)", client)
	}
	for _, n := range far {
		sameNumber(t, h.Last(n), api.OK, 0, api.OK, "P6.9: Last(%d)", n)
	}
}
